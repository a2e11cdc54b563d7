package fib

import (
	"bytes"
	"math/rand"
	"slices"
	"testing"

	"culvert/addr"
	"culvert/api"
)

// number is what an entry's pair is known by, as bytes in whose order pairs stand.
func number(p api.Pair) []byte {
	return slices.Concat(p.Dst.A[:], []byte{byte(p.Dst.Len)}, p.Src.A[:], []byte{byte(p.Src.Len)})
}

func byNumber(a, b api.Entry) int { return bytes.Compare(number(a.Pair), number(b.Pair)) }

// part answers the entries that have a part, as they come.
func part(l []api.Entry) []api.Entry {
	var out []api.Entry
	for _, e := range l {
		same := func(o api.Entry) bool { return o.Pair == e.Pair }
		if addr.CheckPair(e.Pair) == api.OK && !slices.ContainsFunc(out, same) {
			out = append(out, e)
		}
	}
	return out
}

// mapped tells whether a prefix is of IPv4.
func mapped(p api.Prefix) bool { return p.Len >= 96 && bytes.HasPrefix(p.A[:], hand4()) }

// hand4 is what addresses of IPv4 begin with.
func hand4() []byte { return []byte{10: 0xff, 11: 0xff} }

// around tells whether p, of the family of q, has all that q has, bit by bit.
func around(p, q api.Prefix) bool {
	if mapped(p) != mapped(q) || p.Len > q.Len {
		return false
	}
	for k := range p.Len {
		if bit := byte(0x80) >> (k % 8); p.A[k/8]&bit != q.A[k/8]&bit {
			return false
		}
	}
	return true
}

// expandByHand is P19.1, word by word: each Dst with each Src, and for both the best of all entries.
func expandByHand(l []api.Entry) []api.Entry {
	l = part(l)
	var out []api.Entry
	for _, d := range l {
		for _, s := range l {
			if !around(s.Pair.Dst, d.Pair.Dst) {
				continue
			}
			var best api.Entry
			rank := -1
			for _, e := range l {
				if !around(e.Pair.Dst, d.Pair.Dst) || !around(e.Pair.Src, s.Pair.Src) {
					continue
				}
				if r := e.Pair.Dst.Len*1000 + e.Pair.Src.Len; r > rank {
					best, rank = e, r
				}
			}
			best.Pair = api.Pair{Dst: d.Pair.Dst, Src: s.Pair.Src}
			out = append(out, best)
		}
	}
	slices.SortFunc(out, byNumber)
	return slices.Compact(out) // of one pair all are the same
}

// first answers the prefix of a's first n bits, whatever family that makes.
func first(a api.Addr, n int) api.Prefix {
	for k := n; k < 128; k++ {
		a[k/8] &^= byte(0x80) >> (k % 8)
	}
	return api.Prefix{A: a, Len: n}
}

// somePrefix makes prefixes that often lie within one another: few bits of them are told by chance.
func somePrefix(r *rand.Rand, family int) api.Prefix {
	var a api.Addr
	for k := range a {
		a[k] = []byte{0, 0, 0x80, 1}[r.Intn(4)]
	}
	switch {
	case family == api.V4:
		copy(a[:], hand4())
		return first(a, 96+[]int{0, 1, 8, 9, 16, 17, 24, 31, 32}[r.Intn(9)])
	case r.Intn(8) == 0: // of IPv6, and around what is mapped
		copy(a[:], hand4())
		return first(a, r.Intn(96))
	}
	return first(a, []int{0, 1, 8, 9, 16, 17, 24, 127, 128}[r.Intn(9)])
}

// some makes n entries of both families; a few may not be, and some are of one pair.
func some(r *rand.Rand, n int) []api.Entry {
	var l []api.Entry
	for range n {
		family := []int{api.V4, api.V6}[r.Intn(2)]
		i := r.Intn(3)
		e := api.Entry{Pair: api.Pair{Dst: somePrefix(r, family), Src: somePrefix(r, family)}, If: i, Hop: hop(r.Intn(2))}
		switch r.Intn(12) {
		case 0:
			e.Pair.Src = addr.Any(family)
		case 1:
			e.Pair.Dst = addr.Any(family)
		case 2:
			e.Pair.Src.A[15] ^= 1
		case 3:
			e.Pair.Dst.Len = []int{-1, 129}[r.Intn(2)]
		case 4:
			if len(l) > 0 {
				e.Pair = l[r.Intn(len(l))].Pair
			}
		}
		l = append(l, e)
	}
	return l
}

func TestExpandByHand(t *testing.T) { // P19.1
	r := rand.New(rand.NewSource(19))
	added, left := 0, 0
	for k := range 6000 {
		l := some(r, r.Intn(4+k/400))
		want := expandByHand(l)
		if got := Expand(l...); !slices.Equal(got, want) {
			t.Fatalf("Expand of %v:\n%v\nwant\n%v", l, told(got), told(want))
		}
		added += max(len(want)-len(part(l)), 0)
		left += len(l) - len(part(l))
	}
	if added < 10000 || left < 1000 {
		t.Errorf("too little came about: %d added, %d left out", added, left)
	}
}

// lookup is how the kernel looks: the longest Dst, and of those with that one the longest Src.
func lookup(src, dst api.Addr, l []api.Entry) (api.Entry, bool) {
	v4 := addr.Family(dst) == api.V4
	longest := -1
	for _, e := range l {
		if mapped(e.Pair.Dst) == v4 && addr.Contains(e.Pair.Dst, dst) {
			longest = max(longest, e.Pair.Dst.Len)
		}
	}
	var best api.Entry
	found := false
	for _, e := range l {
		if mapped(e.Pair.Dst) == v4 && e.Pair.Dst.Len == longest && addr.Contains(e.Pair.Dst, dst) && addr.Contains(e.Pair.Src, src) {
			if !found || e.Pair.Src.Len > best.Pair.Src.Len {
				best, found = e, true
			}
		}
	}
	return best, found
}

// meant is what the entries mean for a packet: the best pair of its family.
func meant(src, dst api.Addr, l []api.Entry) (api.Entry, bool) {
	v4 := addr.Family(dst) == api.V4
	var pairs []api.Pair
	var of []api.Entry
	for _, e := range part(l) {
		if mapped(e.Pair.Dst) == v4 {
			pairs, of = append(pairs, e.Pair), append(of, e)
		}
	}
	k, ok := addr.Best(src, dst, pairs...)
	if !ok {
		return api.Entry{}, false
	}
	return of[k], true
}

// inside is an address of p: its first one, its last one, or any.
func inside(r *rand.Rand, p api.Prefix) api.Addr {
	a := p.A
	fill := r.Intn(3)
	for k := p.Len; k < 128; k++ {
		if fill == 1 || fill == 2 && r.Intn(2) == 0 {
			a[k/8] |= byte(0x80) >> (k % 8)
		}
	}
	return a
}

// someAddr is an address of one family: mostly one that an entry's prefix has.
func someAddr(r *rand.Rand, v4 bool, l []api.Entry) api.Addr {
	for range 20 {
		p := somePrefix(r, []int{api.V4, api.V6}[r.Intn(2)])
		if len(l) > 0 && r.Intn(4) > 0 {
			e := l[r.Intn(len(l))]
			p = []api.Prefix{e.Pair.Dst, e.Pair.Src}[r.Intn(2)]
		}
		if a := inside(r, p); (addr.Family(a) == api.V4) == v4 {
			return a
		}
	}
	if v4 {
		return addr.Any(api.V4).A
	}
	return api.Addr{0: 0x20}
}

func TestWhatTheRoutesMean(t *testing.T) { // P19.7
	r := rand.New(rand.NewSource(197))
	found, none, plain := 0, 0, 0
	for range 3000 {
		l := some(r, r.Intn(10))
		table := Expand(l...)
		for range 40 {
			v4 := r.Intn(2) == 0
			src, dst := someAddr(r, v4, part(l)), someAddr(r, v4, part(l))
			want, ok := meant(src, dst, l)
			got, there := lookup(src, dst, table)
			if there != ok || got.If != want.If || got.Hop != want.Hop {
				t.Fatalf("from %s to %s: %v, %v, want %v, %v of %v", addr.Print(src), addr.Print(dst), got, there, want, ok, told(part(l)))
			}
			if ok {
				found++
			} else {
				none++
			}
			if w, is := lookup(src, dst, part(l)); is != ok || w.If != want.If || w.Hop != want.Hop {
				plain++ // the entries alone would not do
			}
		}
	}
	if found < 20000 || none < 5000 || plain < 2000 {
		t.Errorf("too little came about: %d found, %d not, %d but for what was added", found, none, plain)
	}
}

// answer is what the kernel said of an operation, and when.
type answer struct {
	op api.Op
	at int
	ok bool
}

// story is a second reading of a Fib: all that was ever answered, in its order. What the kernel has, and what has to wait, is told by going through that.
type story struct {
	wanted []api.Entry
	said   []answer
	doing  *api.Op
}

func (s *story) has() []api.Entry {
	var l []api.Entry
	for _, a := range s.said {
		if !a.ok {
			continue
		}
		l = slices.DeleteFunc(l, func(e api.Entry) bool { return e.Pair == a.op.Entry.Pair })
		if a.op.Kind != 3 {
			l = append(l, a.op.Entry)
		}
	}
	slices.SortFunc(l, byNumber)
	return l
}

// waits tells until when a pair has to wait, if its last operation failed.
func (s *story) waits(p api.Pair) (int, bool) {
	for _, a := range slices.Backward(s.said) {
		if a.op.Entry.Pair == p {
			return a.at + 1000, !a.ok
		}
	}
	return 0, false
}

// work is all that is to be done, whether it has to wait or not: removals first.
func (s *story) work() []api.Op {
	var out, rest []api.Op
	has := s.has()
	for _, e := range has {
		if !slices.ContainsFunc(s.wanted, func(o api.Entry) bool { return o.Pair == e.Pair }) {
			out = append(out, api.Op{Kind: 3, Entry: e})
		}
	}
	for _, e := range s.wanted {
		k := slices.IndexFunc(has, func(o api.Entry) bool { return o.Pair == e.Pair })
		if k < 0 {
			rest = append(rest, api.Op{Kind: 1, Entry: e})
		} else if has[k] != e {
			rest = append(rest, api.Op{Kind: 2, Entry: e})
		}
	}
	return append(out, rest...)
}

func (s *story) next(now int) (api.Op, bool) {
	if s.doing != nil {
		return api.Op{}, false
	}
	for _, op := range s.work() {
		if till, failed := s.waits(op.Entry.Pair); !failed || now >= till {
			s.doing = &op
			return op, true
		}
	}
	return api.Op{}, false
}

func (s *story) reply(now int, ok bool) api.Errno {
	if s.doing == nil {
		return api.ErrNone
	}
	s.said = append(s.said, answer{*s.doing, now, ok})
	s.doing = nil
	return api.OK
}

func (s *story) at() (int, bool) {
	var l []int
	for _, op := range s.work() {
		if till, failed := s.waits(op.Entry.Pair); failed {
			l = append(l, till)
		}
	}
	if len(l) == 0 {
		return 0, false
	}
	return slices.Min(l), true
}

// play is a script of calls that a Fib and a story go through side by side.
type play struct {
	r     *rand.Rand
	f     *Fib
	s     *story
	pool  []api.Entry
	now   int
	kinds map[int]int // how many operations of which kind
	fail  int         // how many of them failed
	nones int
}

// step does something to both, and tells whether they answer the same.
func (p *play) step() bool {
	switch p.r.Intn(10) {
	case 0:
		var l []api.Entry
		for _, k := range p.r.Perm(len(p.pool))[:p.r.Intn(len(p.pool)+1)] {
			e := p.pool[k]
			e.If += p.r.Intn(2)
			l = append(l, e)
		}
		p.f.Want(l...)
		p.s.wanted = expandByHand(l)
	case 1:
		p.now += []int{0, 1, 300, 999, 1000, 5000}[p.r.Intn(6)]
	case 2:
		if at, ok := p.s.at(); ok { // one ahead of it, at it, one behind it
			p.now = max(p.now, at+p.r.Intn(3)-1)
		}
	case 3, 4, 5, 6:
		want, is := p.s.next(p.now)
		p.kinds[want.Kind]++
		got, ok := p.f.Next(p.now)
		return got == want && ok == is
	default:
		good := p.r.Intn(3) > 0
		want := p.s.reply(p.now, good)
		if want != api.OK {
			p.nones++
		} else if !good {
			p.fail++
		}
		return p.f.Reply(p.now, good) == want
	}
	return true
}

// alike tells whether both know the same.
func (p *play) alike() bool {
	at, ok := p.s.at()
	if a, o := p.f.At(); a != at || o != ok {
		return false
	}
	if p.f.Drained() != (p.s.doing == nil && len(p.s.work()) == 0) {
		return false
	}
	return slices.Equal(p.f.Has(), p.s.has()) && slices.Equal(p.f.Wanted(), p.s.wanted)
}

// drain lets all that is under way and to be done be answered with ok, and tells how many operations that were. What the kernel says may come some time behind.
func (p *play) drain() int {
	p.now += 1000
	p.f.Reply(p.now, true)
	n := 0
	for _, ok := p.f.Next(p.now); ok; _, ok = p.f.Next(p.now) {
		p.now += p.r.Intn(2)
		p.f.Reply(p.now, true)
		n++
	}
	return n
}

func TestByHand(t *testing.T) { // P19.2 to P19.6, P19.8
	kinds, fail, nones := map[int]int{}, 0, 0
	for seed := range int64(300) {
		r := rand.New(rand.NewSource(seed))
		p := &play{r: r, f: New(), s: &story{}, pool: some(r, 1+r.Intn(6)), now: r.Intn(2) * r.Intn(1<<39), kinds: kinds}
		for k := range 120 {
			if !p.step() || !p.alike() {
				t.Fatalf("seed %d, step %d at %d: has %v, wanted %v; want %v, %v", seed, k, p.now, told(p.f.Has()), told(p.f.Wanted()), told(p.s.has()), told(p.s.wanted))
			}
		}
		fail, nones = fail+p.fail, nones+p.nones
		p.now += 1000
		p.f.Reply(p.now, true)
		most := len(p.f.Has()) + len(p.f.Wanted())
		if n := p.drain(); n > most || !p.f.Drained() || !slices.Equal(p.f.Has(), p.f.Wanted()) {
			t.Fatalf("seed %d: behind %d operations of at most %d: %v, wanted %v", seed, n, most, told(p.f.Has()), told(p.f.Wanted()))
		}
	}
	if kinds[0] < 1000 || kinds[1] < 500 || kinds[2] < 200 || kinds[3] < 500 || fail < 500 || nones < 1000 {
		t.Errorf("too little came about: operations %v, %d failed, %d answers to nothing", kinds, fail, nones)
	}
}
