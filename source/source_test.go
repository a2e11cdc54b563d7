package source

import (
	"math"
	"slices"
	"testing"

	"culvert/addr"
	"culvert/api"
	"culvert/seqno"
)

const latest = 1 << 40 // of times

// pair reads a pair that is written as it ought to be.
func pair(s string) api.Pair {
	p, e := addr.ParsePair(s)
	if e != api.OK {
		panic(s)
	}
	return p
}

// wide and narrow have one Dst; low lies ahead of both.
var (
	low    = pair("::/0")
	wide   = pair("2001:db8::/32")
	narrow = pair("2001:db8::/32 from 2001::/16")
)

// router is a router's name.
func router(n byte) api.RouterId {
	return api.RouterId{7: n}
}

func dist(seqno, metric uint16) api.Distance {
	return api.Distance{Seqno: seqno, Metric: metric}
}

// of is a source of a router.
func of(p api.Pair, n byte, d api.Distance, at int) api.Source {
	return api.Source{Pair: p, Id: router(n), D: d, At: at}
}

// must fails unless a call was taken.
func must(t *testing.T, e api.Errno) {
	t.Helper()
	if e != api.OK {
		t.Fatalf("refused: %d", e)
	}
}

// filled is a table in which each of these sources was kept once.
func filled(t *testing.T, most int, l ...api.Source) *Table {
	t.Helper()
	x := New(most)
	for _, s := range l {
		must(t, x.Keep(s.At, s.Pair, s.Id, s.D))
	}
	return x
}

// holds fails unless x has just these sources, by every call that asks for one.
func holds(t *testing.T, x *Table, want ...api.Source) {
	t.Helper()
	if got := x.List(); !slices.Equal(got, want) {
		t.Fatalf("List() = %v, want %v", got, want)
	}
	first := math.MaxInt
	for _, s := range want {
		first = min(first, s.At+180000)
		if got, ok := x.Get(s.Pair, s.Id); got != s || !ok {
			t.Fatalf("Get(%v, %v) = %v, %v, want %v", s.Pair, s.Id, got, ok, s)
		}
		if x.Feasible(s.Pair, s.Id, s.D) {
			t.Fatalf("%v is feasible where it is kept", s)
		}
	}
	at, ok := x.Next()
	if len(want) == 0 && (at != 0 || ok) || len(want) > 0 && (at != first || !ok) {
		t.Fatalf("Next() = %d, %v with %v", at, ok, want)
	}
}

// lacks fails if x has a source of that pair and router.
func lacks(t *testing.T, x *Table, p api.Pair, id api.RouterId) {
	t.Helper()
	if got, ok := x.Get(p, id); got != (api.Source{}) || ok {
		t.Fatalf("Get(%v, %v) = %v, %v, want none", p, id, got, ok)
	}
	if !x.Feasible(p, id, dist(0, 65534)) {
		t.Fatalf("%v of %v: the worst distance is not feasible, and nothing is kept", p, id)
	}
}

// refuses fails unless Keep answers that error, and leaves all as it was.
func refuses(t *testing.T, x *Table, want api.Errno, now int, p api.Pair, id api.RouterId, d api.Distance) {
	t.Helper()
	ahead := x.List()
	if got := x.Keep(now, p, id, d); got != want {
		t.Fatalf("Keep(%d, %v, %v, %v) = %d, want %d", now, p, id, d, got, want)
	}
	holds(t, x, ahead...)
}

func TestANewTableHasNoSources(t *testing.T) { // P15.1
	for _, most := range []int{math.MinInt, -1, 0, 1, 2, 4096, math.MaxInt} {
		x := New(most)
		if x == nil {
			t.Fatal("New is nil")
		}
		holds(t, x)
		lacks(t, x, wide, router(1))
		lacks(t, x, api.Pair{}, api.RouterId{})
		if len(x.Tick(latest)) != 0 || x.Touch(5, wide, router(1)) != 0 {
			t.Errorf("New(%d) has a source", most)
		}
	}
}

func TestRoomForNone(t *testing.T) { // P15.1, P15.2
	for _, most := range []int{0, -1, -4096, math.MinInt} {
		x := New(most)
		refuses(t, x, api.ErrMany, 0, wide, router(1), dist(5, 100))
		refuses(t, x, api.ErrMany, 0, wide, router(1), dist(5, 100))
	}
}

func TestRoomForOne(t *testing.T) { // P15.1, P15.2
	x := filled(t, 1, of(wide, 1, dist(5, 100), 0))
	refuses(t, x, api.ErrMany, 9, wide, router(2), dist(5, 100))
	refuses(t, x, api.ErrMany, 9, narrow, router(1), dist(6, 0))
	must(t, x.Keep(9, wide, router(1), dist(6, 7)))
	holds(t, x, of(wide, 1, dist(6, 7), 9))
	x.Tick(180009)
	must(t, x.Keep(180010, wide, router(2), dist(1, 1)))
	holds(t, x, of(wide, 2, dist(1, 1), 180010))
}

func TestNeverMoreThanThereIsRoomFor(t *testing.T) { // P15.1, P15.6
	for _, most := range []int{math.MinInt, -1, 0, 1, 2, 3, 16, 300} {
		x, room := New(most), max(most, 0)
		for n := range 400 {
			want := api.OK
			if n >= room {
				want = api.ErrMany
			}
			id := api.RouterId{0: byte(n >> 8), 1: byte(n)}
			if e := x.Keep(n, wide, id, dist(1, 1)); e != want {
				t.Fatalf("New(%d): source %d: %d, want %d", most, n, e, want)
			}
			if got := len(x.List()); got != min(n+1, room) {
				t.Fatalf("New(%d): %d sources behind %d", most, got, n+1)
			}
		}
		for n := range room { // a full table takes those that it has
			must(t, x.Keep(500, wide, api.RouterId{0: byte(n >> 8), 1: byte(n)}, dist(2, 2)))
		}
		x.Touch(600, wide, api.RouterId{}, api.RouterId{0: 9})
		if got := len(x.List()); got != room {
			t.Fatalf("New(%d): %d sources", most, got)
		}
	}
}

func TestRoomComesBack(t *testing.T) { // P15.1, P15.4, P15.6
	x := filled(t, 3, of(wide, 1, dist(5, 1), 0), of(wide, 2, dist(5, 2), 10), of(wide, 3, dist(5, 3), 20))
	refuses(t, x, api.ErrMany, 180000, low, router(1), dist(0, 0))
	x.Tick(180010)
	must(t, x.Keep(180010, low, router(1), dist(0, 0)))
	must(t, x.Keep(180010, low, router(2), dist(0, 0)))
	refuses(t, x, api.ErrMany, 180010, low, router(3), dist(0, 0))
	holds(t, x, of(low, 1, dist(0, 0), 180010), of(low, 2, dist(0, 0), 180010), of(wide, 3, dist(5, 3), 20))
}

func TestKeep(t *testing.T) { // P15.2
	for _, c := range []struct {
		name            string
		kept, told, now api.Distance
	}{
		{"a lesser metric", dist(5, 100), dist(5, 99), dist(5, 99)},
		{"the same", dist(5, 100), dist(5, 100), dist(5, 100)},
		{"a greater metric", dist(5, 100), dist(5, 101), dist(5, 100)},
		{"example 1", dist(5, 100), dist(5, 120), dist(5, 100)},
		{"a newer seqno", dist(5, 100), dist(6, 500), dist(6, 500)},
		{"an older seqno", dist(5, 100), dist(4, 1), dist(5, 100)},
		{"newer across 65536", dist(65535, 1), dist(0, 2), dist(0, 2)},
		{"older across 65536", dist(0, 2), dist(65535, 1), dist(0, 2)},
		{"the newest that there is", dist(5, 1), dist(32772, 9), dist(32772, 9)},
		{"half the way round", dist(5, 1), dist(32773, 0), dist(5, 1)},
		{"the oldest that there is", dist(5, 1), dist(32774, 0), dist(5, 1)},
		{"metric 0", dist(0, 1), dist(0, 0), dist(0, 0)},
		{"zeros twice", dist(0, 0), dist(0, 0), dist(0, 0)},
		{"just below Infinity", dist(5, 65534), dist(6, 65534), dist(6, 65534)},
	} {
		x := filled(t, 2, of(wide, 1, c.kept, 10), of(wide, 2, dist(9, 9), 10))
		must(t, x.Keep(25, wide, router(1), c.told))
		holds(t, x, of(wide, 1, c.now, 25), of(wide, 2, dist(9, 9), 10))
		if got, _ := x.Get(wide, router(1)); got.D != seqno.Keep(&c.kept, c.told) {
			t.Errorf("%s: %v", c.name, got)
		}
	}
}

func TestWhatIsKeptFirst(t *testing.T) { // P15.2
	for _, d := range []api.Distance{{}, dist(5, 100), dist(65535, 0), dist(0, 65534), dist(65535, 65534)} {
		for _, now := range []int{0, 1, 5000, latest} {
			x := New(1)
			must(t, x.Keep(now, wide, router(1), d))
			holds(t, x, of(wide, 1, d, now))
		}
	}
}

func TestKeepSetsTheTimeWhateverIsKept(t *testing.T) { // P15.2
	x := filled(t, 1, of(wide, 1, dist(5, 100), 0))
	for _, now := range []int{1, 1, 700, 699, 0, latest} {
		must(t, x.Keep(now, wide, router(1), dist(5, 120)))
		holds(t, x, of(wide, 1, dist(5, 100), now))
	}
}

func TestInfinityIsNotKept(t *testing.T) { // P15.2
	x := New(2)
	refuses(t, x, api.ErrArg, 0, wide, router(1), dist(5, 65535))
	lacks(t, x, wide, router(1))
	must(t, x.Keep(3, wide, router(1), dist(5, 100)))
	refuses(t, x, api.ErrArg, 9, wide, router(1), dist(6, 65535))
	refuses(t, x, api.ErrArg, 9, wide, router(1), dist(5, 65535))
	refuses(t, x, api.ErrArg, 9, wide, router(1), dist(4, 65535))
	holds(t, x, of(wide, 1, dist(5, 100), 3))
}

func TestInfinityIsToldAheadOfNoRoom(t *testing.T) { // P15.2
	for _, most := range []int{-1, 0, 1} {
		x := New(most)
		x.Keep(0, wide, router(1), dist(5, 100))
		refuses(t, x, api.ErrArg, 0, wide, router(2), dist(5, 65535))
		refuses(t, x, api.ErrMany, 0, wide, router(2), dist(5, 65534))
	}
}

func TestOnePairWithTwoRouters(t *testing.T) { // P15.3
	x := filled(t, 2, of(wide, 2, dist(7, 20), 2), of(wide, 1, dist(5, 100), 1))
	holds(t, x, of(wide, 1, dist(5, 100), 1), of(wide, 2, dist(7, 20), 2))
	lacks(t, x, wide, router(3))
	lacks(t, x, narrow, router(1))
	if x.Feasible(wide, router(2), dist(6, 1)) || !x.Feasible(wide, router(1), dist(6, 1)) {
		t.Error("what is kept of one router counts for the other")
	}
}

func TestOneRouterWithTwoPairs(t *testing.T) { // P15.3
	x := filled(t, 2, of(narrow, 1, dist(7, 20), 2), of(wide, 1, dist(5, 100), 1))
	lacks(t, x, low, router(1))
	lacks(t, x, wide, router(2))
	if addr.ComparePair(wide, narrow) >= 0 {
		t.Fatal("the pairs stand otherwise")
	}
	holds(t, x, of(wide, 1, dist(5, 100), 1), of(narrow, 1, dist(7, 20), 2))
	if x.Feasible(narrow, router(1), dist(6, 1)) || !x.Feasible(wide, router(1), dist(6, 1)) {
		t.Error("what is kept of one pair counts for the other")
	}
}

func TestEachPartTellsSourcesApart(t *testing.T) { // P15.2, P15.3
	p := pair("10.0.0.0/8 from 1.0.0.0/8")
	dstA, dstLen, srcA, srcLen := p, p, p, p
	dstA.Dst.A[15] = 1
	dstLen.Dst.Len++
	srcA.Src.A[15] = 1
	srcLen.Src.Len++
	x := filled(t, 1, of(p, 1, dist(5, 1), 1))
	for _, q := range []api.Pair{dstA, dstLen, srcA, srcLen, {Dst: p.Src, Src: p.Dst}} {
		lacks(t, x, q, router(1))
		refuses(t, x, api.ErrMany, 2, q, router(1), dist(5, 0))
		if x.Touch(2, q, router(1)) != 0 {
			t.Errorf("%v touched %v", q, p)
		}
	}
	for k := range 8 {
		id := router(1)
		id[k] ^= 0x80
		lacks(t, x, p, id)
		refuses(t, x, api.ErrMany, 2, p, id, dist(5, 0))
	}
	holds(t, x, of(p, 1, dist(5, 1), 1))
}

func TestFeasible(t *testing.T) { // P15.3
	x := filled(t, 1, of(wide, 1, dist(5, 100), 0))
	must(t, x.Keep(0, wide, router(1), dist(5, 120)))
	for _, c := range []struct {
		name string
		d    api.Distance
		want bool
	}{
		{"what is kept", dist(5, 100), false},
		{"a lesser metric", dist(5, 99), true},
		{"the least metric", dist(5, 0), true},
		{"a greater metric", dist(5, 101), false},
		{"what was told later", dist(5, 120), false},
		{"a newer seqno", dist(6, 500), true},
		{"a newer seqno, the greatest metric", dist(6, 65534), true},
		{"the newest seqno", dist(32772, 65534), true},
		{"half the way round", dist(32773, 0), false},
		{"an older seqno", dist(4, 0), false},
		{"an older seqno across 65536", dist(65535, 0), false},
		{"Infinity at the seqno that is kept", dist(5, 65535), true},
		{"Infinity at an older seqno", dist(4, 65535), true},
		{"Infinity at a newer seqno", dist(6, 65535), true},
	} {
		if got := x.Feasible(wide, router(1), c.d); got != c.want {
			t.Errorf("%s: %v", c.name, got)
		}
		if !x.Feasible(wide, router(2), c.d) || !x.Feasible(narrow, router(1), c.d) {
			t.Errorf("%s: not feasible where nothing is kept", c.name)
		}
	}
	holds(t, x, of(wide, 1, dist(5, 100), 0)) // asking keeps nothing
}

func TestFeasibleWithNothingKept(t *testing.T) { // P15.3
	x := New(4)
	for _, d := range []api.Distance{{}, dist(5, 100), dist(65535, 65534), dist(0, 65535), dist(65535, 65535)} {
		if !x.Feasible(wide, router(1), d) {
			t.Errorf("%v is not feasible", d)
		}
	}
	holds(t, x)
}

func TestListStandsInOrder(t *testing.T) { // P15.3
	var want []api.Source
	pairs := []api.Pair{
		{},
		{Src: api.Prefix{Len: 1}},
		low,
		pair("10.0.0.0/8"), pair("10.0.0.0/8 from 1.0.0.0/8"), pair("10.0.0.0/8 from 1.0.0.0/9"), pair("10.0.0.0/8 from 2.0.0.0/8"),
		pair("10.0.0.0/16"), pair("10.0.0.0/16 from 1.0.0.0/8"), pair("10.1.0.0/16"), pair("200.0.0.0/8"),
		wide, narrow, pair("2001:db8::/33"), pair("2001:db8:1::/48"), pair("fe80::/64"),
	}
	slices.SortFunc(pairs, addr.ComparePair)
	pairs = slices.Compact(pairs)
	ids := []api.RouterId{{}, {7: 1}, {7: 2}, {7: 0x80}, {7: 0xff}, {6: 1}, {0: 1}, {0: 1, 7: 1}, {0: 0x7f}, {0: 0x80}, {0: 0xff}}
	for k, p := range pairs {
		for m, id := range ids {
			want = append(want, api.Source{Pair: p, Id: id, D: dist(uint16(k), uint16(m)), At: 1000 - k*m})
		}
	}
	for _, step := range []int{1, 7, 29, 83} { // in several orders: 16 times 11 has none of these in it, 1 aside
		x := New(len(want))
		for k := range want {
			s := want[k*step%len(want)]
			must(t, x.Keep(s.At, s.Pair, s.Id, s.D))
		}
		holds(t, x, want...)
		if gone := x.Tick(latest); !slices.Equal(gone, want) {
			t.Fatalf("Tick told them in another order: %v", gone)
		}
		holds(t, x)
	}
}

func TestListIsTheSameTwice(t *testing.T) { // P15.3
	x := New(300)
	for n := range 300 {
		must(t, x.Keep(n%7, []api.Pair{low, wide, narrow}[n%3], api.RouterId{0: byte(n >> 8), 1: byte(n)}, dist(1, uint16(n))))
	}
	first := x.List()
	for range 10 {
		if !slices.Equal(x.List(), first) {
			t.Fatal("List hangs on the order of a map")
		}
	}
	if len(first) != 300 {
		t.Fatal(len(first))
	}
}

func TestAnyPairMayBeKept(t *testing.T) { // P15.2, P15.3: no word of the chapter refuses one
	x := New(8)
	for _, p := range []api.Pair{
		{}, {Dst: api.Prefix{Len: 129}}, {Dst: api.Prefix{Len: -1}}, {Src: api.Prefix{Len: math.MaxInt}}, {Src: api.Prefix{Len: math.MinInt}},
		{Dst: api.Prefix{A: api.Addr{15: 1}, Len: 8}}, {Dst: wide.Dst, Src: pair("10.0.0.0/8").Dst},
	} {
		must(t, x.Keep(4, p, router(1), dist(5, 100)))
		if s, ok := x.Get(p, router(1)); s != of(p, 1, dist(5, 100), 4) || !ok {
			t.Errorf("Get(%v) = %v, %v", p, s, ok)
		}
	}
	if len(x.List()) != 7 || !slices.IsSortedFunc(x.List(), func(a, b api.Source) int { return addr.ComparePair(a.Pair, b.Pair) }) {
		t.Error(x.List())
	}
}
