package source

import (
	"bytes"
	"math/rand"
	"slices"
	"testing"

	"culvert/api"
)

// line is what is kept of a source in a book: all that was told since it is there, and when the last time was.
type line struct {
	p    api.Pair
	id   api.RouterId
	told []api.Distance
	at   int
}

// book is a second reading of a table: lines in a list that is kept in order; what is kept is looked for in all that was told.
type book struct {
	most int
	l    []*line
}

// number is a prefix as bytes whose order is that of prefixes.
func number(p api.Prefix) []byte {
	return append(p.A[:], byte(p.Len))
}

func number2(p api.Pair, id api.RouterId) []byte {
	return slices.Concat(number(p.Dst), number(p.Src), id[:])
}

// place is where the source stands in the list, or ought to.
func (b *book) place(p api.Pair, id api.RouterId) (int, bool) {
	for k, s := range b.l {
		if c := bytes.Compare(number2(s.p, s.id), number2(p, id)); c >= 0 {
			return k, c == 0
		}
	}
	return len(b.l), false
}

// newer tells whether a is 1 to 32767 steps ahead of b.
func newer(a, b uint16) bool {
	steps := (int(a) - int(b) + 65536) % 65536
	return 1 <= steps && steps <= 32767
}

// best is what is kept of a line: of all that was told each one in its turn may put the one ahead out.
func (s *line) best() api.Distance {
	d := s.told[0]
	for _, x := range s.told[1:] {
		if newer(x.Seqno, d.Seqno) || x.Seqno == d.Seqno && x.Metric < d.Metric {
			d = x
		}
	}
	return d
}

func (s *line) source() api.Source {
	return api.Source{Pair: s.p, Id: s.id, D: s.best(), At: s.at}
}

func (b *book) list() []api.Source {
	var l []api.Source
	for _, s := range b.l {
		l = append(l, s.source())
	}
	return l
}

func (b *book) keep(now int, p api.Pair, id api.RouterId, d api.Distance) api.Errno {
	if d.Metric == 65535 {
		return api.ErrArg
	}
	k, there := b.place(p, id)
	if !there {
		if len(b.l)+1 > b.most {
			return api.ErrMany
		}
		b.l = slices.Insert(b.l, k, &line{p: p, id: id})
	}
	b.l[k].told, b.l[k].at = append(b.l[k].told, d), now
	return api.OK
}

func (b *book) feasible(p api.Pair, id api.RouterId, d api.Distance) bool {
	k, there := b.place(p, id)
	if !there || d.Metric == 65535 {
		return true
	}
	kept := b.l[k].best()
	return newer(d.Seqno, kept.Seqno) || d.Seqno == kept.Seqno && d.Metric < kept.Metric
}

func (b *book) tick(now int) []api.Source {
	var gone []api.Source
	var stay []*line
	for _, s := range b.l {
		if now-s.at >= 180000 {
			gone = append(gone, s.source())
		} else {
			stay = append(stay, s)
		}
	}
	b.l = stay
	return gone
}

func (b *book) touch(now int, p api.Pair, ids ...api.RouterId) int {
	n := 0
	for _, id := range ids {
		if k, there := b.place(p, id); there {
			b.l[k].at = now
			n++
		}
	}
	return n
}

func (b *book) next() (int, bool) {
	if len(b.l) == 0 {
		return 0, false
	}
	first := slices.MinFunc(b.l, func(x, y *line) int { return x.at - y.at })
	return first.at + 180000, true
}

// play is a table and a book to which the same is done.
type play struct {
	r    *rand.Rand
	x    *Table
	b    *book
	now  int
	base uint16 // where seqnos begin
	span int    // how far they go
	met  map[api.Errno]int
	gone int
}

func (p *play) pair() api.Pair {
	return []api.Pair{low, wide, narrow, pair("10.0.0.0/8"), pair("10.0.0.0/8 from 1.0.0.0/8")}[p.r.Intn(5)]
}

func (p *play) id() api.RouterId {
	return []api.RouterId{{}, {7: 1}, {7: 2}, {0: 1}, {0: 0x80}}[p.r.Intn(5)]
}

func (p *play) distance() api.Distance {
	metric := []uint16{0, 1, 96, 97, 192, 500, 65534, 65535}[p.r.Intn(8)]
	return api.Distance{Seqno: p.base + uint16(p.r.Intn(p.span)), Metric: metric}
}

// step does something to both, and tells whether they answer the same.
func (p *play) step() bool {
	switch p.r.Intn(10) {
	case 0, 1, 2, 3, 4:
		q, id, d := p.pair(), p.id(), p.distance()
		e := p.b.keep(p.now, q, id, d)
		p.met[e]++
		return p.x.Keep(p.now, q, id, d) == e
	case 5:
		q, ids := p.pair(), []api.RouterId{p.id(), p.id(), p.id(), p.id()}
		ids = ids[:p.r.Intn(len(ids)+1)]
		return p.x.Touch(p.now, q, ids...) == p.b.touch(p.now, q, ids...)
	case 6:
		p.now += p.r.Intn(40000)
	case 7:
		if at, ok := p.b.next(); ok { // one ahead of it, at it, one behind it
			p.now = max(p.now, at+p.r.Intn(3)-1)
		}
	default:
		gone := p.b.tick(p.now)
		p.gone += len(gone)
		return slices.Equal(p.x.Tick(p.now), gone)
	}
	return true
}

// alike tells whether both know the same.
func (p *play) alike() bool {
	at, ok := p.b.next()
	if a, o := p.x.Next(); a != at || o != ok {
		return false
	}
	if l := p.x.List(); !slices.Equal(l, p.b.list()) || len(l) > max(p.b.most, 0) {
		return false
	}
	q, id, d := p.pair(), p.id(), p.distance()
	k, there := p.b.place(q, id)
	s, got := p.x.Get(q, id)
	if got != there || there && s != p.b.l[k].source() || !there && s != (api.Source{}) {
		return false
	}
	return p.x.Feasible(q, id, d) == p.b.feasible(q, id, d)
}

func TestByHand(t *testing.T) { // P15.1 to P15.4, P15.6
	met, gone := map[api.Errno]int{}, 0
	for seed := range int64(200) {
		r := rand.New(rand.NewSource(seed))
		most := r.Intn(24) - 1
		p := &play{r: r, x: New(most), b: &book{most: most}, now: r.Intn(2) * r.Intn(1<<39), base: uint16(r.Intn(65536)), span: []int{1, 3, 20, 32768, 65536}[r.Intn(5)], met: met}
		for k := range 300 {
			if !p.step() || !p.alike() {
				t.Fatalf("seed %d, step %d: %v, want %v", seed, k, p.x.List(), p.b.list())
			}
		}
		gone += p.gone
	}
	if met[api.OK] < 1000 || met[api.ErrArg] < 1000 || met[api.ErrMany] < 1000 || gone < 1000 {
		t.Errorf("too little came about: %v, %d gone", met, gone)
	}
}

// TestNeverBack holds all that was not feasible, of seqnos that span less than half the way round, against a source that stays.
func TestNeverBack(t *testing.T) { // P15.5
	barred := 0
	for seed := range int64(100) {
		r := rand.New(rand.NewSource(seed))
		p := &play{r: r, x: New(2), base: uint16(r.Intn(65536)), span: []int{1, 2, 10, 32768}[r.Intn(4)]}
		must(t, p.x.Keep(0, wide, router(1), api.Distance{Seqno: p.base, Metric: 500}))
		var not []api.Distance
		for range 200 {
			if d := p.distance(); !p.x.Feasible(wide, router(1), d) {
				not = append(not, d)
			}
			p.now += r.Intn(3000)
			switch r.Intn(4) {
			case 0:
				p.x.Keep(p.now, wide, router(1), p.distance())
			case 1:
				p.x.Keep(p.now, wide, router(byte(r.Intn(4))), p.distance())
			case 2:
				p.x.Touch(p.now, wide, router(1))
			case 3:
				p.x.Tick(p.now)
			}
			for _, d := range not {
				if p.x.Feasible(wide, router(1), d) {
					t.Fatalf("seed %d: %v became feasible", seed, d)
				}
			}
			barred += len(not)
		}
	}
	if barred < 10000 {
		t.Errorf("too little was barred: %d", barred)
	}
}
