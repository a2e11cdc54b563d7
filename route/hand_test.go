package route

import (
	"bytes"
	"cmp"
	"encoding/binary"
	"math/rand"
	"slices"
	"testing"

	"culvert/api"
)

// line is a route in a book: when its Hold began stands there in place of when it ends, and whether it is Selected stands in the book.
type line struct {
	r    api.Route // Until and Selected have no part
	told int       // when it was told, expired, or was taken back
}

// book is a second reading of a table: lines in a list that is kept in order, and of each pair the one that is Selected.
type book struct {
	most   int
	l      []*line
	chosen []*line
}

// number is what a route is known by, as bytes in whose order routes stand.
func number(p api.Pair, i int, from api.Addr) []byte {
	n := slices.Concat(p.Dst.A[:], []byte{byte(p.Dst.Len)}, p.Src.A[:], []byte{byte(p.Src.Len)})
	n = binary.BigEndian.AppendUint64(n, uint64(i)+1<<63)
	return append(n, from[:]...)
}

// place is where the route stands in the list, or ought to.
func (b *book) place(p api.Pair, i int, from api.Addr) (int, bool) {
	for k, s := range b.l {
		if c := bytes.Compare(number(s.r.Pair, s.r.If, s.r.From), number(p, i, from)); c >= 0 {
			return k, c == 0
		}
	}
	return len(b.l), false
}

// route is the line as a table tells it.
func (b *book) route(s *line) api.Route {
	r := s.r
	r.Until, r.Selected = s.told+r.Hold, slices.Contains(b.chosen, s)
	return r
}

func (b *book) list() []api.Route {
	var l []api.Route
	for _, s := range b.l {
		l = append(l, b.route(s))
	}
	return l
}

func (b *book) of(p api.Pair) []api.Route {
	return slices.DeleteFunc(b.list(), func(r api.Route) bool { return r.Pair != p })
}

func (b *book) pairs() []api.Pair {
	var l []api.Pair
	for _, s := range b.l {
		if !slices.Contains(l, s.r.Pair) {
			l = append(l, s.r.Pair)
		}
	}
	return l
}

func (b *book) selected(p api.Pair) (api.Route, bool) {
	for _, s := range b.chosen {
		if s.r.Pair == p {
			return b.route(s), true
		}
	}
	return api.Route{}, false
}

func (b *book) tell(now int, r api.Route, feasible bool) (int, api.Errno) {
	if r.Hold <= 0 || r.Hold > 2147483648 {
		return 0, api.ErrArg
	}
	k, there := b.place(r.Pair, r.If, r.From)
	switch {
	case !there && (r.Ref == 65535 || !feasible):
		return 3, api.OK
	case !there && len(b.l)+1 > b.most:
		return 0, api.ErrMany
	case !there:
		r.Metric, r.Until, r.Selected = 65535, 0, false
		b.l = slices.Insert(b.l, k, &line{r, now})
		return 1, api.OK
	}
	s := b.l[k]
	if !feasible && slices.Contains(b.chosen, s) && s.r.Id == r.Id {
		return 3, api.OK
	}
	if r.Ref < 65535 {
		r.Metric, r.Until, r.Selected = s.r.Metric, 0, false
		s.r = r
	}
	s.r.Ref, s.told = r.Ref, now
	return 2, api.OK
}

func (b *book) retract(now, i int, from api.Addr) int {
	n := 0
	for _, s := range b.l {
		if s.r.If == i && s.r.From == from && s.r.Ref < 65535 {
			s.r.Ref, s.told = 65535, now
			n++
		}
	}
	return n
}

func (b *book) reckon(cost func(api.Route) uint16) []api.Pair {
	var l []api.Pair
	for _, s := range b.l {
		m := cost(b.route(s))
		if m != s.r.Metric && !slices.Contains(l, s.r.Pair) {
			l = append(l, s.r.Pair)
		}
		s.r.Metric = m
	}
	return l
}

func (b *book) choose(p api.Pair, i int, from api.Addr) api.Errno {
	k, there := b.place(p, i, from)
	if !there {
		return api.ErrNone
	}
	b.unselect(p)
	b.chosen = append(b.chosen, b.l[k])
	return api.OK
}

func (b *book) unselect(l ...api.Pair) int {
	ahead := len(b.chosen)
	b.chosen = slices.DeleteFunc(b.chosen, func(s *line) bool { return slices.Contains(l, s.r.Pair) })
	return ahead - len(b.chosen)
}

// strike takes the lines away that are so, and answers them.
func (b *book) strike(so func(s *line) bool) []api.Route {
	var gone []api.Route
	var stay []*line
	for _, s := range b.l {
		if so(s) {
			gone = append(gone, b.route(s))
		} else {
			stay = append(stay, s)
		}
	}
	b.l = stay
	b.chosen = slices.DeleteFunc(b.chosen, func(s *line) bool { return !slices.Contains(stay, s) })
	return gone
}

func (b *book) tick(now int) (expired, gone []api.Route) {
	for _, s := range b.l {
		if s.r.Ref < 65535 && now-s.told >= s.r.Hold {
			s.r.Ref, s.told = 65535, s.told+s.r.Hold
			expired = append(expired, b.route(s))
		}
	}
	return expired, b.strike(func(s *line) bool { return s.r.Ref == 65535 && now-s.told >= s.r.Hold })
}

func (b *book) next() (int, bool) {
	if len(b.l) == 0 {
		return 0, false
	}
	first := slices.MinFunc(b.list(), func(x, y api.Route) int { return cmp.Compare(x.Until, y.Until) })
	return first.Until, true
}

// play is a table and a book to which the same is done.
type play struct {
	r   *rand.Rand
	x   *Table
	b   *book
	now int
	met map[string]int
}

func (p *play) pair() api.Pair {
	return []api.Pair{low, wide, narrow, pair("10.0.0.0/8"), pair("10.0.0.0/8 from 1.0.0.0/8")}[p.r.Intn(5)]
}

func (p *play) face() int {
	return []int{-1, 0, 0, 1, 1, 2}[p.r.Intn(6)]
}

func (p *play) from() api.Addr {
	return []api.Addr{{}, nb(1), nb(2), nb(0x80)}[p.r.Intn(4)]
}

func (p *play) tale() api.Route {
	return api.Route{
		Pair: p.pair(), If: p.face(), From: p.from(), Id: router(byte(p.r.Intn(2))), Seqno: uint16(p.r.Intn(65536)),
		Ref: []uint16{0, 1, 96, 500, 65534, 65535}[p.r.Intn(6)], Metric: uint16(p.r.Intn(65536)), Hop: nb(byte(p.r.Intn(256))),
		Until: p.r.Intn(100000), Hold: []int{-1, 0, 1, 2, 50, 1000, 1000, 1400, 56000, 1 << 31, 1<<31 + 1}[p.r.Intn(11)], Selected: p.r.Intn(2) == 0,
	}
}

// wait lets time go on, often just to where something is due.
func (p *play) wait() {
	if at, ok := p.b.next(); ok && p.r.Intn(2) == 0 { // one ahead of it, at it, one behind it
		p.now = max(p.now, at+p.r.Intn(3)-1)
	} else {
		p.now += p.r.Intn(1500)
	}
}

func (p *play) tick() bool {
	expired, gone := p.b.tick(p.now)
	p.met["expired"] += len(expired)
	p.met["gone"] += len(gone)
	e, g := p.x.Tick(p.now)
	return slices.Equal(e, expired) && slices.Equal(g, gone)
}

func (p *play) tell() bool {
	r, feasible := p.tale(), p.r.Intn(3) > 0
	k, e := p.b.tell(p.now, r, feasible)
	p.met[[]string{"refused", "new", "changed", "ignored"}[k]]++
	k2, e2 := p.x.Tell(p.now, r, feasible)
	return k == k2 && e == e2
}

func (p *play) reckon() bool {
	add := uint16(p.r.Intn(3))
	cost := func(r api.Route) uint16 {
		if r.Ref == 65535 || int(r.From[15]) == int(add) {
			return 65535
		}
		return r.Ref + add*uint16(r.If+1)
	}
	want := p.b.reckon(cost)
	p.met["reckoned"] += len(want)
	return slices.Equal(p.x.Reckon(cost), want)
}

func (p *play) drop() bool {
	i, from := p.face(), []api.Addr{p.from(), p.from(), p.from()}
	from = from[:p.r.Intn(4)]
	want := p.b.strike(func(s *line) bool { return s.r.If == i && (len(from) == 0 || slices.Contains(from, s.r.From)) })
	p.met["dropped"] += len(want)
	return slices.Equal(p.x.Drop(i, from...), want)
}

// step does something to both, and tells whether they answer the same.
func (p *play) step() bool {
	switch n := p.r.Intn(20); {
	case n < 9:
		return p.tell()
	case n < 11:
		p.wait()
		return true
	case n < 13:
		return p.tick()
	case n < 14:
		i, from := p.face(), p.from()
		want := p.b.retract(p.now, i, from)
		p.met["retracted"] += want
		return p.x.Retract(p.now, i, from) == want
	case n < 15:
		return p.reckon()
	case n < 18:
		q, i, from := p.pair(), p.face(), p.from()
		if len(p.b.l) > 0 && p.r.Intn(4) > 0 { // mostly one that is there
			r := p.b.l[p.r.Intn(len(p.b.l))].r
			q, i, from = r.Pair, r.If, r.From
		}
		want := p.b.choose(q, i, from)
		if want == api.OK {
			p.met["selected"]++
		}
		return p.x.Select(q, i, from) == want
	case n < 19:
		l := []api.Pair{p.pair(), p.pair(), p.pair()}[:p.r.Intn(4)]
		want := p.b.unselect(l...)
		p.met["unselected"] += want
		return p.x.Unselect(l...) == want
	}
	return p.r.Intn(2) == 0 || p.drop()
}

// alike tells whether both know the same.
func (p *play) alike() bool {
	at, ok := p.b.next()
	if a, o := p.x.Next(); a != at || o != ok {
		return false
	}
	l := p.x.List()
	if !slices.Equal(l, p.b.list()) || len(l) > max(p.b.most, 0) || !slices.Equal(p.x.Pairs(), p.b.pairs()) {
		return false
	}
	q, i, from := p.pair(), p.face(), p.from()
	want, chosen := p.b.selected(q)
	if r, o := p.x.Selected(q); r != want || o != chosen || !slices.Equal(p.x.Of(q), p.b.of(q)) {
		return false
	}
	k, there := p.b.place(q, i, from)
	want = api.Route{}
	if there {
		want = p.b.route(p.b.l[k])
	}
	r, o := p.x.Get(q, i, from)
	return r == want && o == there && single(l)
}

// single tells whether of each pair one route at most is Selected.
func single(l []api.Route) bool {
	seen := map[api.Pair]int{}
	for _, r := range l {
		if r.Selected {
			seen[r.Pair]++
		}
		if seen[r.Pair] > 1 {
			return false
		}
	}
	return true
}

func TestByHand(t *testing.T) { // P16.1 to P16.9, P16.11
	met := map[string]int{}
	for seed := range int64(300) {
		r := rand.New(rand.NewSource(seed))
		most := []int{-1, 0, 1, 3, 8, 20, 80}[r.Intn(7)]
		p := &play{r: r, x: New(most), b: &book{most: most}, now: r.Intn(2) * r.Intn(1<<39), met: met}
		for k := range 400 {
			if !p.step() || !p.alike() {
				t.Fatalf("seed %d, step %d: %v, want %v", seed, k, p.x.List(), p.b.list())
			}
		}
	}
	for _, what := range []string{"refused", "new", "changed", "ignored", "expired", "gone", "retracted", "reckoned", "selected", "unselected", "dropped"} {
		if met[what] < 1000 {
			t.Errorf("too little came about: %d %s", met[what], what)
		}
	}
}

// TestInTheEnd lets all neighbours fall silent behind some script: two Holds behind the last tale of each route it is gone, however seldom Tick comes.
func TestInTheEnd(t *testing.T) { // P16.10
	gone := 0
	for seed := range int64(200) {
		r := rand.New(rand.NewSource(seed))
		p := &play{r: r, x: New(40), b: &book{most: 40}, met: map[string]int{}}
		for range 200 {
			p.step()
		}
		l, end := p.x.List(), 0
		for _, q := range l {
			end = max(end, p.now+2*q.Hold)
		}
		for k := r.Intn(4); k > 0; k-- {
			p.x.Tick(p.now + r.Intn(2000))
			p.x.Reckon(func(r api.Route) uint16 { return r.Ref })
			p.x.Select(p.pair(), p.face(), p.from())
		}
		for _, q := range l {
			if s, there := p.x.Get(q.Pair, q.If, q.From); there && s.Until > p.now+2*q.Hold {
				t.Fatalf("seed %d: %v stays too long", seed, s)
			}
		}
		p.x.Tick(end)
		holds(t, p.x)
		gone += len(l)
	}
	if gone < 1000 {
		t.Errorf("too little was there: %d", gone)
	}
}
