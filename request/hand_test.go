package request

import (
	"bytes"
	"math/rand"
	"slices"
	"testing"

	"culvert/api"
)

// line is a request in a book: all times at which it was sent.
type line struct {
	p     api.Pair
	id    api.RouterId
	seqno uint16
	sent  []int
}

// book is a second reading of a table: lines in a list that is kept in order; how often a request was sent, and when it is next, is told by when it was.
type book struct {
	most int
	l    []*line
}

// number is what a request is known by, as bytes in whose order requests stand.
func number(p api.Pair, id api.RouterId) []byte {
	return slices.Concat(p.Dst.A[:], []byte{byte(p.Dst.Len)}, p.Src.A[:], []byte{byte(p.Src.Len)}, id[:])
}

// place is where the request stands in the list, or ought to.
func (b *book) place(p api.Pair, id api.RouterId) (int, bool) {
	for k, r := range b.l {
		if c := bytes.Compare(number(r.p, r.id), number(p, id)); c >= 0 {
			return k, c == 0
		}
	}
	return len(b.l), false
}

// steps is how many steps a is ahead of b, round at 65536.
func steps(a, b uint16) int {
	return (int(a) - int(b) + 65536) % 65536
}

// pending is the line as a table tells it.
func (r *line) pending() api.Pending {
	last, wait := r.sent[len(r.sent)-1], 2000
	for range r.sent[1:] {
		wait += wait
	}
	return api.Pending{Pair: r.p, Id: r.id, Seqno: r.seqno, Tries: len(r.sent), At: last + wait}
}

func (b *book) list() []api.Pending {
	var l []api.Pending
	for _, r := range b.l {
		l = append(l, r.pending())
	}
	return l
}

func (b *book) ask(now int, p api.Pair, id api.RouterId, seqno uint16) (bool, api.Errno) {
	k, there := b.place(p, id)
	if there && (steps(seqno, b.l[k].seqno) == 0 || steps(seqno, b.l[k].seqno) > 32767) {
		return false, api.OK
	}
	if !there && len(b.l)+1 > b.most {
		return false, api.ErrMany
	}
	if there {
		b.l = slices.Delete(b.l, k, k+1)
	}
	b.l = slices.Insert(b.l, k, &line{p, id, seqno, []int{now}})
	return true, api.OK
}

func (b *book) met(p api.Pair, id api.RouterId, d api.Distance) bool {
	k, there := b.place(p, id)
	if !there || d.Metric == 65535 || steps(d.Seqno, b.l[k].seqno) > 32767 {
		return false
	}
	b.l = slices.Delete(b.l, k, k+1)
	return true
}

func (b *book) forget(l ...api.Pair) int {
	n := 0
	for k := len(b.l) - 1; k >= 0; k-- {
		if slices.Contains(l, b.l[k].p) {
			b.l = slices.Delete(b.l, k, k+1)
			n++
		}
	}
	return n
}

func (b *book) tick(now int) (again, gone []api.Pending) {
	var stay []*line
	for _, r := range b.l {
		switch p := r.pending(); {
		case p.At > now:
			stay = append(stay, r)
		case len(r.sent) == 4:
			gone = append(gone, p)
		default:
			r.sent = append(r.sent, now)
			stay, again = append(stay, r), append(again, r.pending())
		}
	}
	b.l = stay
	return again, gone
}

func (b *book) next() (int, bool) {
	if len(b.l) == 0 {
		return 0, false
	}
	return slices.MinFunc(b.list(), func(x, y api.Pending) int { return x.At - y.At }).At, true
}

// play is a table and a book to which the same is done.
type play struct {
	r                     *rand.Rand
	x                     *Table
	b                     *book
	now                   int
	base                  uint16 // where seqnos begin
	span                  int    // how far they go
	asked                 map[api.Errno]int
	sent, met, again, end int
}

func (p *play) pair() api.Pair {
	return []api.Pair{low, wide, narrow, pair("10.0.0.0/8"), pair("10.0.0.0/8 from 1.0.0.0/8")}[p.r.Intn(5)]
}

func (p *play) id() api.RouterId {
	return []api.RouterId{{}, {7: 1}, {7: 2}, {0: 1}, {0: 0x80}}[p.r.Intn(5)]
}

func (p *play) seqno() uint16 {
	return p.base + uint16(p.r.Intn(p.span))
}

// step does something to both, and tells whether they answer the same.
func (p *play) step() bool {
	switch p.r.Intn(12) {
	case 0, 1, 2, 3, 4:
		q, id, seqno := p.pair(), p.id(), p.seqno()
		want, e := p.b.ask(p.now, q, id, seqno)
		p.asked[e]++
		if want {
			p.sent++
		}
		got, f := p.x.Ask(p.now, q, id, seqno)
		return got == want && f == e
	case 5:
		q, id, d := p.pair(), p.id(), dist(p.seqno(), []uint16{0, 96, 65534, 65535}[p.r.Intn(4)])
		want := p.b.met(q, id, d)
		if want {
			p.met++
		}
		return p.x.Met(q, id, d) == want
	case 6:
		l := []api.Pair{p.pair(), p.pair(), p.pair()}[:p.r.Intn(3)*p.r.Intn(2)]
		return p.x.Forget(l...) == p.b.forget(l...)
	case 7:
		p.now += p.r.Intn(3000)
	case 8:
		if at, ok := p.b.next(); ok { // one ahead of it, at it, one behind it
			p.now = max(p.now, at+p.r.Intn(3)-1)
		}
	default:
		again, gone := p.b.tick(p.now)
		p.again, p.end = p.again+len(again), p.end+len(gone)
		a, g := p.x.Tick(p.now)
		return slices.Equal(a, again) && slices.Equal(g, gone)
	}
	return true
}

// alike tells whether both know the same.
func (p *play) alike() bool {
	at, ok := p.b.next()
	if a, o := p.x.Next(); a != at || o != ok {
		return false
	}
	l := p.x.List()
	return slices.Equal(l, p.b.list()) && len(l) <= max(p.b.most, 0)
}

func TestByHand(t *testing.T) { // P18.1 to P18.4, P18.7
	asked, sent, met, again, end := map[api.Errno]int{}, 0, 0, 0, 0
	for seed := range int64(200) {
		r := rand.New(rand.NewSource(seed))
		most := r.Intn(26) - 1
		p := &play{r: r, x: New(most), b: &book{most: most}, now: r.Intn(2) * r.Intn(1<<39), base: uint16(r.Intn(65536)), span: []int{1, 3, 20, 32769, 65536}[r.Intn(5)], asked: asked}
		for k := range 400 {
			if !p.step() || !p.alike() {
				t.Fatalf("seed %d, step %d: %v, want %v", seed, k, p.x.List(), p.b.list())
			}
		}
		sent, met, again, end = sent+p.sent, met+p.met, again+p.again, end+p.end
	}
	if asked[api.OK]-sent < 1000 || asked[api.ErrMany] < 1000 || sent < 1000 || met < 300 || again < 1000 || end < 300 {
		t.Errorf("too little came about: %v, %d sent, %d met, %d again, %d at an end", asked, sent, met, again, end)
	}
}

func TestOwnByHand(t *testing.T) { // P18.5
	r := rand.New(rand.NewSource(18))
	for range 100000 {
		own := uint16(r.Intn(65536))
		asked := own + []uint16{0, 1, 32766, 32767, 32768, 32769, 65535, uint16(r.Intn(65536))}[r.Intn(8)]
		want := own
		if n := steps(asked, own); n > 0 && n < 32768 {
			want++
		}
		if got := Own(own, asked); got != want {
			t.Fatalf("Own(%d, %d) = %d, want %d", own, asked, got, want)
		}
	}
}
