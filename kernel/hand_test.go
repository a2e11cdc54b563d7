package kernel

import (
	"bytes"
	"math/rand"
	"slices"
	"testing"

	"culvert/addr"
	"culvert/api"
)

// row is an entry of the second reading's table.
type row struct {
	e      api.Entry
	others bool
}

// sheet is a second reading of a kernel: rows without an order, all of which are gone through for each call.
type sheet struct {
	rows  []row
	fails int
}

func (s *sheet) of(p api.Pair) int {
	return slices.IndexFunc(s.rows, func(r row) bool { return r.e.Pair == p })
}

func (s *sheet) do(op api.Op) bool {
	if s.fails > 0 {
		s.fails--
		return false
	}
	k := s.of(op.Entry.Pair)
	if addr.CheckPair(op.Entry.Pair) != api.OK || op.Kind < 1 || op.Kind > 3 {
		return false
	}
	if op.Kind == 1 {
		if k >= 0 {
			return false
		}
		s.rows = append(s.rows, row{op.Entry, false})
		return true
	}
	if k < 0 || s.rows[k].others {
		return false
	}
	if op.Kind == 2 {
		s.rows[k].e = op.Entry
	} else {
		s.rows = slices.Delete(s.rows, k, k+1)
	}
	return true
}

func (s *sheet) load(l []api.Entry) int {
	n := len(s.rows)
	for _, e := range l {
		if addr.CheckPair(e.Pair) == api.OK && s.of(e.Pair) < 0 {
			s.rows = append(s.rows, row{e, true})
		}
	}
	return len(s.rows) - n
}

func (s *sheet) list(others bool) []api.Entry {
	var l []api.Entry
	for _, r := range s.rows {
		if r.others == others {
			l = append(l, r.e)
		}
	}
	number := func(p api.Pair) []byte {
		return slices.Concat(p.Dst.A[:], []byte{byte(p.Dst.Len)}, p.Src.A[:], []byte{byte(p.Src.Len)})
	}
	slices.SortFunc(l, func(a, b api.Entry) int { return bytes.Compare(number(a.Pair), number(b.Pair)) })
	return l
}

// mapped tells whether a prefix, or an address as one, is of IPv4.
func mapped(p api.Prefix) bool {
	return p.Len >= 96 && bytes.HasPrefix(p.A[:], []byte{10: 0xff, 11: 0xff})
}

// in tells whether a has p's bits, one by one, and p's family.
func in(p api.Prefix, a api.Addr) bool {
	for k := range p.Len {
		if bit := byte(0x80) >> (k % 8); p.A[k/8]&bit != a[k/8]&bit {
			return false
		}
	}
	return mapped(p) == mapped(api.Prefix{A: a, Len: 128})
}

// lookup is P20.5, word by word.
func (s *sheet) lookup(src, dst api.Addr) (api.Entry, bool) {
	if mapped(api.Prefix{A: src, Len: 128}) != mapped(api.Prefix{A: dst, Len: 128}) {
		return api.Entry{}, false
	}
	most := -1
	for _, r := range s.rows {
		if in(r.e.Pair.Dst, dst) {
			most = max(most, r.e.Pair.Dst.Len)
		}
	}
	var best []api.Entry
	for _, r := range s.rows {
		p := r.e.Pair
		if p.Dst.Len == most && in(p.Dst, dst) && in(p.Src, src) && (len(best) == 0 || p.Src.Len > best[0].Pair.Src.Len) {
			best = []api.Entry{r.e}
		}
	}
	if len(best) == 0 {
		return api.Entry{}, false
	}
	return best[0], true
}

// somePrefix makes prefixes that often lie within one another.
func somePrefix(r *rand.Rand, v4 bool) api.Prefix {
	var a api.Addr
	for k := range a {
		a[k] = []byte{0, 0, 0x80}[r.Intn(3)]
	}
	n := []int{0, 1, 8, 9, 16, 17, 95, 96, 127, 128}[r.Intn(10)]
	if v4 {
		copy(a[:], []byte{10: 0xff, 11: 0xff})
		n = 96 + []int{0, 1, 8, 9, 31, 32}[r.Intn(6)]
	} else if r.Intn(6) == 0 { // of IPv6, and around what is mapped
		copy(a[:], []byte{10: 0xff, 11: 0xff})
		n = r.Intn(96)
	}
	for k := n; k < 128; k++ {
		a[k/8] &^= byte(0x80) >> (k % 8)
	}
	return api.Prefix{A: a, Len: n}
}

// somePair makes pairs of which a few may not be.
func somePair(r *rand.Rand) api.Pair {
	v4 := r.Intn(2) == 0
	p := api.Pair{Dst: somePrefix(r, v4), Src: somePrefix(r, v4)}
	switch r.Intn(20) {
	case 0:
		p.Src = somePrefix(r, !v4)
	case 1:
		p.Dst.Len = []int{-1, 129, 3, 1 << 40}[r.Intn(4)]
	case 2:
		p.Src.A[15] ^= 1
	case 3, 4, 5, 6, 7:
		p.Src = addr.Any(addr.PrefixFamily(p.Dst))
	}
	return p
}

// someEntry is mostly of a pair that is there, or was.
func someEntry(r *rand.Rand, pool *[]api.Pair) api.Entry {
	if len(*pool) < 40 {
		*pool = append(*pool, somePair(r))
	}
	return api.Entry{Pair: (*pool)[r.Intn(len(*pool))], If: r.Intn(3), Hop: api.Addr{15: byte(r.Intn(2))}}
}

// someAddr is mostly an address that one of the pool's prefixes has.
func someAddr(r *rand.Rand, pool []api.Pair) api.Addr {
	if len(pool) == 0 || r.Intn(8) == 0 {
		return somePrefix(r, r.Intn(2) == 0).A
	}
	p := pool[r.Intn(len(pool))]
	a := []api.Addr{p.Dst.A, p.Src.A}[r.Intn(2)]
	if r.Intn(2) == 0 {
		a[[]int{1, 2, 11, 13, 15}[r.Intn(5)]] ^= byte(1 << r.Intn(8))
	}
	return a
}

// script plays one random script to a kernel and to its second reading, and counts what came about.
func script(t *testing.T, r *rand.Rand, count map[string]int) {
	k, s := New(), &sheet{}
	var pool []api.Pair
	for range 150 {
		switch r.Intn(12) {
		case 0:
			if n := r.Intn(5) - 2; r.Intn(3) == 0 {
				k.Fail(n)
				s.fails = max(n, 0)
			}
		case 1:
			l := []api.Entry{someEntry(r, &pool), someEntry(r, &pool), someEntry(r, &pool)}[:r.Intn(4)]
			got, want := k.Import(l...), s.load(l)
			if got != want {
				t.Fatalf("Import(%v) = %d, want %d", l, got, want)
			}
			count["imported"] += want
		case 2:
			left := k
			k = left.Copy()
			left.Fail(3)
			left.Import(someEntry(r, &pool))
			left.Do(api.Op{Kind: api.OpRemove, Entry: someEntry(r, &pool)})
		default:
			op := api.Op{Kind: r.Intn(5), Entry: someEntry(r, &pool)}
			got, want := k.Do(op), s.do(op)
			if got != want {
				t.Fatalf("Do(%v) = %v, want %v", op, got, want)
			}
			if want {
				count[[]string{"", "added", "changed", "removed", ""}[op.Kind]]++
			}
		}
		if !slices.Equal(k.List(), s.list(false)) || !slices.Equal(k.Imported(), s.list(true)) {
			t.Fatalf("%v and %v, want %v and %v", k.List(), k.Imported(), s.list(false), s.list(true))
		}
		for range 4 {
			look(t, k, s, someAddr(r, pool), someAddr(r, pool), count)
		}
	}
}

// look holds what Lookup finds against the second reading, and against P20.7.
func look(t *testing.T, k *Kernel, s *sheet, src, dst api.Addr, count map[string]int) {
	got, ok := k.Lookup(src, dst)
	want, is := s.lookup(src, dst)
	if got != want || ok != is {
		t.Fatalf("Lookup(%s, %s) = %v, %v, want %v, %v", addr.Print(src), addr.Print(dst), got, ok, want, is)
	}
	if !ok {
		count["none"]++
		return
	}
	if !addr.Matches(got.Pair, src, dst) {
		t.Fatalf("%v does not match a packet from %s to %s", got, addr.Print(src), addr.Print(dst))
	}
	for _, e := range append(k.List(), k.Imported()...) {
		if addr.PrefixFamily(e.Pair.Dst) == addr.Family(dst) && e.Pair.Dst.Len > got.Pair.Dst.Len && addr.Contains(e.Pair.Dst, dst) {
			t.Fatalf("%v was found for %s, %v is longer", got, addr.Print(dst), e)
		}
	}
	count["found"]++
}

func TestScriptsByHand(t *testing.T) { // P20.1 to P20.7
	r := rand.New(rand.NewSource(20))
	count := map[string]int{}
	for range 400 {
		script(t, r, count)
	}
	for what, least := range map[string]int{"imported": 1500, "added": 1000, "changed": 1000, "removed": 1000, "found": 20000, "none": 20000} {
		if count[what] < least {
			t.Errorf("too little came about: %d %s", count[what], what)
		}
	}
}

func TestTheSameCallsTellTheSame(t *testing.T) { // rule 4
	r := rand.New(rand.NewSource(4))
	var pool []api.Pair
	var l []api.Entry
	for range 60 {
		l = append(l, someEntry(r, &pool))
	}
	k := New()
	k.Import(l...)
	want := k.Imported()
	for range 50 {
		k := New()
		k.Import(l...)
		if !slices.Equal(k.Imported(), want) {
			t.Fatal("one table, two lists")
		}
	}
}

func TestAWideTableIsQuick(t *testing.T) { // P20.5: what is looked up does not go through all
	k := New()
	e := entry("10.0.0.0/8: 1")
	for n := range 40000 {
		e.Pair.Dst = api.Prefix{A: api.Addr{10: 0xff, 11: 0xff, 12: 10, 13: byte(n >> 8), 14: byte(n)}, Len: 120}
		done(t, k, api.Op{Kind: api.OpAdd, Entry: e})
	}
	for n := range 40000 {
		dst := api.Addr{10: 0xff, 11: 0xff, 12: 10, 13: byte(n >> 8), 14: byte(n), 15: 7}
		if got, ok := k.Lookup(dst, dst); !ok || got.Pair.Dst.A[14] != byte(n) {
			t.Fatal(n, got)
		}
	}
}
