package route

import (
	"math"
	"slices"
	"testing"

	"culvert/addr"
	"culvert/api"
)

const (
	latest = 1 << 40 // of times
	inf    = 65535
)

// pair reads a pair that is written as it ought to be.
func pair(s string) api.Pair {
	p, e := addr.ParsePair(s)
	if e != api.OK {
		panic(s)
	}
	return p
}

// wide and narrow have one Dst; low lies ahead of both (it is the zero Pair).
var (
	low    = pair("::/0")
	wide   = pair("2001:db8::/32")
	narrow = pair("2001:db8::/32 from 2001::/16")
)

// nb is a neighbour's address.
func nb(n byte) api.Addr {
	return api.Addr{0: 0xfe, 1: 0x80, 15: n}
}

// router is a router's name.
func router(n byte) api.RouterId {
	return api.RouterId{7: n}
}

// tale is what neighbour n tells on an interface.
func tale(p api.Pair, i int, n byte, ref uint16) api.Route {
	return api.Route{Pair: p, If: i, From: nb(n), Id: router(1), Seqno: 5, Ref: ref, Hop: api.Addr{0: 0x20, 15: n}, Hold: 1000}
}

// fresh is the route that a tale makes at that time.
func fresh(now int, r api.Route) api.Route {
	r.Metric, r.Until, r.Selected = inf, now+r.Hold, false
	return r
}

// taken is r where it is Selected.
func taken(r api.Route) api.Route {
	r.Selected = true
	return r
}

// back is r where it was taken back at that time.
func back(at int, r api.Route) api.Route {
	r.Ref, r.Until = inf, at+r.Hold
	return r
}

// held is r with another Hold.
func held(hold int, r api.Route) api.Route {
	r.Hold = hold
	return r
}

// tells fails unless Tell answers so.
func tells(t *testing.T, x *Table, want int, now int, r api.Route, feasible bool) {
	t.Helper()
	if got, e := x.Tell(now, r, feasible); got != want || e != api.OK {
		t.Fatalf("Tell(%d, %v, %v) = %d, %d, want %d", now, r, feasible, got, e, want)
	}
}

// refuses fails unless Tell answers 0 and that error, and leaves all as it was.
func refuses(t *testing.T, x *Table, want api.Errno, now int, r api.Route, feasible bool) {
	t.Helper()
	ahead := x.List()
	if got, e := x.Tell(now, r, feasible); got != 0 || e != want {
		t.Fatalf("Tell(%d, %v, %v) = %d, %d, want 0, %d", now, r, feasible, got, e, want)
	}
	holds(t, x, ahead...)
}

// ignores fails unless Tell passes r over, and leaves all as it was.
func ignores(t *testing.T, x *Table, now int, r api.Route, feasible bool) {
	t.Helper()
	ahead := x.List()
	tells(t, x, api.ToldIgnored, now, r, feasible)
	holds(t, x, ahead...)
}

// selects fails unless the route could be selected.
func selects(t *testing.T, x *Table, r api.Route) {
	t.Helper()
	if e := x.Select(r.Pair, r.If, r.From); e != api.OK {
		t.Fatalf("Select(%v, %d, %v) = %d", r.Pair, r.If, r.From, e)
	}
}

// filled is a table to which these tales were told at the time 0.
func filled(t *testing.T, most int, l ...api.Route) *Table {
	t.Helper()
	x := New(most)
	for _, r := range l {
		tells(t, x, api.ToldNew, 0, r, true)
	}
	return x
}

// holds fails unless x has just these routes, by every call that asks for some.
func holds(t *testing.T, x *Table, want ...api.Route) {
	t.Helper()
	if got := x.List(); !slices.Equal(got, want) {
		t.Fatalf("List() = %v, want %v", got, want)
	}
	first := math.MaxInt
	var all []api.Pair
	for _, r := range want {
		first = min(first, r.Until)
		if !slices.Contains(all, r.Pair) {
			all = append(all, r.Pair)
		}
		if got, ok := x.Get(r.Pair, r.If, r.From); got != r || !ok {
			t.Fatalf("Get(%v, %d, %v) = %v, %v, want %v", r.Pair, r.If, r.From, got, ok, r)
		}
	}
	if got := x.Pairs(); !slices.Equal(got, all) {
		t.Fatalf("Pairs() = %v, want %v", got, all)
	}
	for _, p := range all {
		holdsOf(t, x, p, want)
	}
	at, ok := x.Next()
	if len(want) == 0 && (at != 0 || ok) || len(want) > 0 && (at != first || !ok) {
		t.Fatalf("Next() = %d, %v with %v", at, ok, want)
	}
}

// holdsOf fails unless x has of p just those of want, and the one that is Selected there.
func holdsOf(t *testing.T, x *Table, p api.Pair, want []api.Route) {
	t.Helper()
	var of []api.Route
	var one api.Route
	for _, r := range want {
		if r.Pair != p {
			continue
		}
		of = append(of, r)
		if r.Selected && one.Selected {
			t.Fatalf("of %v two are Selected: %v, %v", p, one, r)
		}
		if r.Selected {
			one = r
		}
	}
	if got := x.Of(p); !slices.Equal(got, of) {
		t.Fatalf("Of(%v) = %v, want %v", p, got, of)
	}
	if got, ok := x.Selected(p); got != one || ok != one.Selected {
		t.Fatalf("Selected(%v) = %v, %v, want %v", p, got, ok, one)
	}
}

// lacks fails if x has a route of that pair and neighbour.
func lacks(t *testing.T, x *Table, p api.Pair, i int, from api.Addr) {
	t.Helper()
	if got, ok := x.Get(p, i, from); got != (api.Route{}) || ok {
		t.Fatalf("Get(%v, %d, %v) = %v, %v, want none", p, i, from, got, ok)
	}
}

// lacksPair fails if x has a route of that pair.
func lacksPair(t *testing.T, x *Table, p api.Pair) {
	t.Helper()
	if got, ok := x.Selected(p); got != (api.Route{}) || ok || len(x.Of(p)) != 0 || slices.Contains(x.Pairs(), p) {
		t.Fatalf("there is a route of %v: %v", p, x.List())
	}
}

func TestExampleOne(t *testing.T) { // P16.2, P16.4, P16.5, P16.6
	x, r := New(1), tale(wide, 0, 2, 100)
	tells(t, x, api.ToldNew, 0, r, true)
	if l := x.Reckon(func(r api.Route) uint16 { return r.Ref + 96 }); !slices.Equal(l, []api.Pair{wide}) {
		t.Error(l)
	}
	if got, _ := x.Get(wide, 0, nb(2)); got.Metric != 196 {
		t.Error(got)
	}
	if expired, gone := x.Tick(1000); len(expired) != 1 || len(gone) != 0 {
		t.Error(expired, gone)
	}
	if expired, gone := x.Tick(2000); len(expired) != 0 || len(gone) != 1 {
		t.Error(expired, gone)
	}
	holds(t, x)
	tells(t, x, api.ToldNew, 3000, r, true)
	selects(t, x, r)
	ignores(t, x, 3000, r, false)
	r.Id = router(2)
	tells(t, x, api.ToldChanged, 3000, r, false)
}

func TestANewTableHasNoRoutes(t *testing.T) { // P16.1, P16.8
	for _, most := range []int{math.MinInt, -1, 0, 1, 2, 4096, math.MaxInt} {
		x := New(most)
		if x == nil {
			t.Fatal("New is nil")
		}
		holds(t, x)
		for _, p := range []api.Pair{{}, low, wide} {
			lacks(t, x, p, 0, nb(1))
			lacks(t, x, p, 0, api.Addr{})
			lacksPair(t, x, p)
			if e := x.Select(p, 0, api.Addr{}); e != api.ErrNone {
				t.Error(e)
			}
		}
		if x.Retract(0, 0, nb(1)) != 0 || x.Unselect(wide, low) != 0 || len(x.Drop(0)) != 0 || len(x.Drop(0, nb(1))) != 0 {
			t.Errorf("New(%d) has a route", most)
		}
		if l := x.Reckon(func(api.Route) uint16 { t.Error("cost is asked"); return 1 }); len(l) != 0 {
			t.Error(l)
		}
		if expired, gone := x.Tick(latest); len(expired)+len(gone) != 0 {
			t.Error(expired, gone)
		}
		holds(t, x)
	}
}

func TestRoomForNone(t *testing.T) { // P16.1, P16.2, P16.11
	for _, most := range []int{0, -1, -4096, math.MinInt} {
		x := New(most)
		refuses(t, x, api.ErrMany, 0, tale(wide, 0, 1, 100), true)
		refuses(t, x, api.ErrMany, 0, tale(wide, 0, 1, 0), true)
		ignores(t, x, 0, tale(wide, 0, 1, inf), true)
		ignores(t, x, 0, tale(wide, 0, 1, 100), false)
		holds(t, x)
	}
}

func TestRoomForOne(t *testing.T) { // P16.1, P16.2, P16.11
	r := tale(wide, 0, 1, 100)
	x := filled(t, 1, r)
	refuses(t, x, api.ErrMany, 9, tale(wide, 0, 2, 100), true)
	refuses(t, x, api.ErrMany, 9, tale(wide, 1, 1, 100), true)
	refuses(t, x, api.ErrMany, 9, tale(narrow, 0, 1, 100), true)
	tells(t, x, api.ToldChanged, 9, r, true) // there is room for what is there
	holds(t, x, fresh(9, r))
	tells(t, x, api.ToldChanged, 10, tale(wide, 0, 1, inf), true)
	refuses(t, x, api.ErrMany, 11, tale(wide, 0, 2, 100), true) // taken back, but still there
	x.Tick(1010)
	tells(t, x, api.ToldNew, 1010, tale(wide, 0, 2, 100), true)
	holds(t, x, fresh(1010, tale(wide, 0, 2, 100)))
	x.Drop(0)
	tells(t, x, api.ToldNew, 1020, tale(low, 7, 3, 1), true)
	holds(t, x, fresh(1020, tale(low, 7, 3, 1)))
}

func TestNeverMoreThanThereIsRoomFor(t *testing.T) { // P16.1, P16.11
	for _, most := range []int{math.MinInt, -1, 0, 1, 2, 3, 16, 300} {
		x, room := New(most), max(most, 0)
		one := func(n int) api.Route {
			return tale([]api.Pair{low, wide, narrow}[n%3], n%5, byte(n/5), 100)
		}
		for n := range 400 {
			if n < room {
				tells(t, x, api.ToldNew, n, one(n), true)
			} else if k, e := x.Tell(n, one(n), true); k != 0 || e != api.ErrMany {
				t.Fatalf("New(%d): route %d: %d, %d", most, n, k, e)
			}
			if got := len(x.List()); got != min(n+1, room) {
				t.Fatalf("New(%d): %d routes behind %d", most, got, n+1)
			}
		}
		for n := range room { // a full table takes those that it has
			tells(t, x, api.ToldChanged, 400, one(n), n%2 == 0)
			selects(t, x, one(n))
		}
		x.Reckon(func(r api.Route) uint16 { return r.Ref })
		x.Retract(400, 1, nb(0))
		if got := len(x.List()); got != room {
			t.Fatalf("New(%d): %d routes", most, got)
		}
	}
}

func TestHold(t *testing.T) { // P16.2
	for _, c := range []struct {
		hold  int
		taken bool
	}{
		{math.MinInt, false}, {-1, false}, {0, false}, {1, true}, {2, true}, {1000, true},
		{1<<31 - 1, true}, {1 << 31, true}, {1<<31 + 1, false}, {1 << 32, false}, {1<<32 + 1000, false}, {math.MaxInt, false},
	} {
		r := held(c.hold, tale(wide, 0, 1, 100))
		for _, now := range []int{0, 7, latest} {
			x := New(1)
			there := filled(t, 1, held(500, r))
			if c.taken {
				tells(t, x, api.ToldNew, now, r, true)
				tells(t, there, api.ToldChanged, now, r, true)
				holds(t, x, fresh(now, r))
				holds(t, there, fresh(now, r))
			} else {
				refuses(t, x, api.ErrArg, now, r, true)
				refuses(t, there, api.ErrArg, now, r, true)
			}
		}
	}
}

func TestAWrongHoldIsToldAheadOfAllElse(t *testing.T) { // P16.2
	for _, hold := range []int{0, 1<<31 + 1} {
		for _, ref := range []uint16{100, inf} {
			for _, feasible := range []bool{true, false} {
				refuses(t, New(0), api.ErrArg, 0, held(hold, tale(wide, 0, 1, ref)), feasible)
				refuses(t, New(1), api.ErrArg, 0, held(hold, tale(wide, 0, 1, ref)), feasible)
				x := filled(t, 1, tale(wide, 0, 1, 100))
				refuses(t, x, api.ErrArg, 5, held(hold, tale(wide, 0, 1, ref)), feasible)
				refuses(t, x, api.ErrArg, 5, held(hold, tale(wide, 0, 2, ref)), feasible)
				selects(t, x, tale(wide, 0, 1, 0))
				refuses(t, x, api.ErrArg, 5, held(hold, tale(wide, 0, 1, ref)), feasible)
			}
		}
	}
}

func TestTellOfARouteThatIsNotThere(t *testing.T) { // P16.2
	for _, ref := range []uint16{0, 1, 100, 65534, inf} {
		for _, feasible := range []bool{true, false} {
			for _, room := range []bool{true, false} {
				other, r := tale(low, 0, 1, 1), tale(wide, 3, 2, ref)
				x := filled(t, 1, other)
				if room {
					x = filled(t, 2, other)
				}
				switch {
				case ref == inf || !feasible: // ahead of the room that there is
					ignores(t, x, 20, r, feasible)
					lacks(t, x, wide, 3, nb(2))
				case !room:
					refuses(t, x, api.ErrMany, 20, r, feasible)
					lacks(t, x, wide, 3, nb(2))
				default:
					tells(t, x, api.ToldNew, 20, r, feasible)
					holds(t, x, fresh(0, other), fresh(20, r))
				}
			}
		}
	}
}

func TestWhatHasNoPartInATale(t *testing.T) { // P16.2
	r := tale(wide, 0, 1, 100)
	odd := r
	odd.Metric, odd.Until, odd.Selected = 7, 123456, true
	x := New(1)
	tells(t, x, api.ToldNew, 10, odd, true)
	holds(t, x, fresh(10, r))
	x.Reckon(func(api.Route) uint16 { return 300 })
	tells(t, x, api.ToldChanged, 20, odd, true)
	want := fresh(20, r)
	want.Metric = 300
	holds(t, x, want)
	tells(t, x, api.ToldChanged, 30, odd, false) // not Selected, whatever the tale says
	selects(t, x, r)
	odd.Selected = false
	ignores(t, x, 40, odd, false) // Selected, whatever the tale says
	tells(t, x, api.ToldChanged, 50, odd, true)
	want.Until, want.Selected = 1050, true
	holds(t, x, want)
}

// TestTellOfARouteThatIsThere goes through all that has a part: whether it is Selected, the tale feasible, its Id the same, its Ref Infinity, and whether the route had been taken back.
func TestTellOfARouteThatIsThere(t *testing.T) { // P16.2
	for k := range 32 {
		selected, feasible, same, nowhere, was := k&1 != 0, k&2 != 0, k&4 != 0, k&8 != 0, k&16 != 0
		old, other := tale(wide, 3, 1, 100), tale(wide, 4, 1, 50)
		x := filled(t, 2, old, other)
		x.Reckon(func(r api.Route) uint16 { return r.Ref + 96 })
		ahead, beside := fresh(0, old), fresh(0, other)
		ahead.Metric, beside.Metric = 196, 146
		if was {
			x.Retract(5, 3, nb(1))
			ahead = back(5, ahead)
		}
		if selected {
			selects(t, x, old)
			ahead = taken(ahead)
		}
		r := api.Route{Pair: wide, If: 3, From: nb(1), Id: router(2), Seqno: 77, Ref: 400, Metric: 9, Hop: api.Addr{0: 0x21}, Until: 9, Hold: 2500}
		if same {
			r.Id = router(1)
		}
		if nowhere {
			r.Ref = inf
		}
		if selected && !feasible && same {
			ignores(t, x, 700, r, feasible)
			holds(t, x, ahead, beside)
			continue
		}
		tells(t, x, api.ToldChanged, 700, r, feasible)
		want := ahead
		if nowhere { // all but Ref and Until stay
			want.Ref, want.Until = inf, 1700
		} else {
			want.Ref, want.Id, want.Seqno, want.Hop, want.Hold, want.Until = 400, r.Id, 77, api.Addr{0: 0x21}, 2500, 3200
		}
		holds(t, x, want, beside)
	}
}

func TestATakenRouteIsIgnoredByItsOwnIdAlone(t *testing.T) { // P16.2
	r := tale(wide, 0, 1, 100)
	x := filled(t, 2, r, tale(low, 0, 1, 100))
	selects(t, x, r)
	for k := range 8 {
		other := r
		other.Id[k] ^= 0x80
		tells(t, x, api.ToldChanged, 50, other, false)
		tells(t, x, api.ToldChanged, 50, r, true)
		ignores(t, x, 60, r, false)
	}
	better := r
	better.Seqno, better.Ref = 9, 0 // whether that may be taken is for whoever calls
	ignores(t, x, 60, better, false)
	tells(t, x, api.ToldChanged, 60, tale(low, 0, 1, 200), false) // another pair of the same neighbour is not Selected
	x.Unselect(wide)
	tells(t, x, api.ToldChanged, 60, r, false)
}

func TestAnIgnoredTaleDoesNotHoldOn(t *testing.T) { // P16.2, P16.10
	r := tale(wide, 0, 1, 100)
	x := filled(t, 1, r)
	selects(t, x, r)
	ignores(t, x, 999, r, false)
	if expired, _ := x.Tick(1000); !slices.Equal(expired, []api.Route{back(1000, taken(fresh(0, r)))}) {
		t.Error(expired)
	}
}

func TestARouteComesBack(t *testing.T) { // P16.2
	r := tale(wide, 0, 1, 100)
	x := filled(t, 1, r)
	tells(t, x, api.ToldChanged, 10, tale(wide, 0, 1, inf), true)
	holds(t, x, back(10, fresh(0, r)))
	tells(t, x, api.ToldChanged, 20, tale(wide, 0, 1, inf), false) // told again: held on
	holds(t, x, back(20, fresh(0, r)))
	r.Seqno, r.Hold, r.Ref = 6, 50, 65534
	tells(t, x, api.ToldChanged, 30, r, false)
	holds(t, x, fresh(30, r))
	x.Tick(80)
	holds(t, x, back(80, fresh(30, r)))
	r.Ref = 0
	tells(t, x, api.ToldChanged, 100, r, true)
	holds(t, x, fresh(100, r))
}

func TestTheTimeMayRunBack(t *testing.T) { // P16.2: Until hangs on the last tale alone
	r := tale(wide, 0, 1, 100)
	x := New(1)
	tells(t, x, api.ToldNew, 5000, r, true)
	tells(t, x, api.ToldChanged, 300, r, true)
	holds(t, x, fresh(300, r))
	if x.Retract(200, 0, nb(1)) != 1 {
		t.Error("Retract")
	}
	holds(t, x, back(200, fresh(0, r)))
}

func TestEachPartTellsRoutesApart(t *testing.T) { // P16.2, P16.5, P16.8
	p := pair("10.0.0.0/8 from 1.0.0.0/8")
	r := tale(p, 3, 1, 100)
	x := filled(t, 1, r)
	dstA, dstLen, srcA, srcLen, turned, face := r, r, r, r, r, r
	dstA.Pair.Dst.A[15] = 1
	dstLen.Pair.Dst.Len++
	srcA.Pair.Src.A[15] = 1
	srcLen.Pair.Src.Len++
	turned.Pair = api.Pair{Dst: p.Src, Src: p.Dst}
	face.If = 4
	l := []api.Route{dstA, dstLen, srcA, srcLen, turned, face}
	for k := range 16 {
		q := r
		q.From[k] ^= 0x80
		l = append(l, q)
	}
	for _, q := range l {
		lacks(t, x, q.Pair, q.If, q.From)
		refuses(t, x, api.ErrMany, 2, q, true)
		if e := x.Select(q.Pair, q.If, q.From); e != api.ErrNone {
			t.Errorf("Select of %v: %d", q, e)
		}
		if q.Pair != p {
			lacksPair(t, x, q.Pair)
		} else if x.Retract(2, q.If, q.From) != 0 || len(x.Drop(q.If, q.From)) != 0 {
			t.Errorf("%v is not %v", q, r)
		}
	}
	holds(t, x, fresh(0, r))
	q := r
	q.Id, q.Seqno, q.Ref, q.Hop, q.Hold, q.Metric, q.Until, q.Selected = router(9), 9, 9, nb(9), 9, 9, 9, true
	tells(t, x, api.ToldChanged, 2, q, true) // none of these makes another one of it
	holds(t, x, fresh(2, q))
}

func TestAnyRouteMayBeTold(t *testing.T) { // P16.2: no word of the chapter refuses one, but for its Hold
	var want []api.Route
	x := New(99)
	for _, p := range []api.Pair{
		{}, {Dst: api.Prefix{Len: 129}}, {Dst: api.Prefix{Len: -1}}, {Src: api.Prefix{Len: math.MaxInt}}, {Src: api.Prefix{Len: math.MinInt}},
		{Dst: api.Prefix{A: api.Addr{15: 1}, Len: 8}}, {Dst: wide.Dst, Src: pair("10.0.0.0/8").Dst},
	} {
		for _, i := range []int{math.MinInt, -1, 0, 16, math.MaxInt} {
			r := api.Route{Pair: p, If: i, Hold: 1}
			tells(t, x, api.ToldNew, 4, r, true)
			want = append(want, fresh(4, r))
		}
	}
	slices.SortStableFunc(want, func(a, b api.Route) int { return addr.ComparePair(a.Pair, b.Pair) })
	holds(t, x, want...)
}

func TestListStandsInOrder(t *testing.T) { // P16.8
	all := []api.Pair{
		{}, {Src: api.Prefix{Len: 1}}, low,
		pair("10.0.0.0/8"), pair("10.0.0.0/8 from 1.0.0.0/8"), pair("10.0.0.0/8 from 1.0.0.0/9"), pair("10.0.0.0/8 from 2.0.0.0/8"),
		pair("10.0.0.0/16"), pair("10.0.0.0/16 from 1.0.0.0/8"), pair("10.1.0.0/16"), pair("200.0.0.0/8"),
		wide, narrow, pair("2001:db8::/33"), pair("2001:db8:1::/48"), pair("fe80::/64"),
	}
	slices.SortFunc(all, addr.ComparePair)
	all = slices.Compact(all)
	var want []api.Route
	for k, p := range all {
		for _, i := range []int{-7, 0, 1, 2, 300} {
			for m, from := range []api.Addr{{}, {15: 1}, {15: 0x80}, {15: 0xff}, {14: 1}, {0: 1}, {0: 0xff}} {
				// what has no part in the order runs the other way
				want = append(want, fresh(0, api.Route{Pair: p, If: i, From: from, Id: router(byte(99 - m)), Seqno: uint16(99 - k), Ref: uint16(99 - m), Hop: nb(byte(99 - m)), Hold: 99 - k - m}))
			}
		}
	}
	for _, step := range []int{1, 11, 97, len(want) - 1} { // in several orders: none of these has a part in common with the number of routes
		x := New(len(want))
		for k := range want {
			tells(t, x, api.ToldNew, 0, want[k*step%len(want)], true)
		}
		holds(t, x, want...)
		if got := x.Pairs(); !slices.Equal(got, all) {
			t.Fatal(got)
		}
		if expired, gone := x.Tick(latest); !slices.EqualFunc(expired, want, sameKey) || !slices.EqualFunc(gone, want, sameKey) {
			t.Fatal("Tick told them in another order")
		}
		holds(t, x)
	}
}

func sameKey(a, b api.Route) bool {
	return a.Pair == b.Pair && a.If == b.If && a.From == b.From
}

func TestListIsTheSameTwice(t *testing.T) { // P16.8
	x := New(300)
	for n := range 300 {
		tells(t, x, api.ToldNew, n%7, tale([]api.Pair{low, wide, narrow}[n%3], n%2, byte(n/2), 1), true)
	}
	first := x.List()
	for range 10 {
		if !slices.Equal(x.List(), first) || !slices.Equal(slices.Concat(x.Of(low), x.Of(wide), x.Of(narrow)), first) {
			t.Fatal("the answers hang on the order of a map")
		}
	}
	if len(first) != 300 || !slices.Equal(x.Pairs(), []api.Pair{low, wide, narrow}) {
		t.Fatal(len(first), x.Pairs())
	}
}

func TestGetAndOf(t *testing.T) { // P16.8
	a, b, c, d := tale(wide, 0, 1, 1), tale(wide, 0, 2, 2), tale(wide, 1, 1, 3), tale(narrow, 0, 1, 4)
	x := filled(t, 4, d, c, b, a)
	holds(t, x, fresh(0, a), fresh(0, b), fresh(0, c), fresh(0, d))
	lacks(t, x, wide, 1, nb(2))
	lacks(t, x, wide, 0, nb(3))
	lacks(t, x, wide, 2, nb(1))
	lacks(t, x, narrow, 0, nb(2))
	lacks(t, x, low, 0, nb(1))
	lacksPair(t, x, low)
	lacksPair(t, x, api.Pair{})
}
