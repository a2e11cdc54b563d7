package route

import (
	"math"
	"slices"
	"testing"

	"culvert/api"
)

// ticks fails unless Tick answers just these.
func ticks(t *testing.T, x *Table, now int, expired, gone []api.Route) {
	t.Helper()
	e, g := x.Tick(now)
	if !slices.Equal(e, expired) {
		t.Fatalf("Tick(%d) expired %v, want %v", now, e, expired)
	}
	if !slices.Equal(g, gone) {
		t.Fatalf("Tick(%d) took away %v, want %v", now, g, gone)
	}
}

func TestTickAtTheEdge(t *testing.T) { // P16.6
	for _, told := range []int{0, 1, 5000, latest - 4001} {
		r := fresh(told, tale(wide, 0, 1, 100))
		expired := back(told+1000, r)
		for _, c := range []struct {
			now           int
			expires, goes bool
		}{
			{0, false, false}, {told, false, false}, {told + 999, false, false},
			{told + 1000, true, false}, {told + 1001, true, false}, {told + 1999, true, false},
			{told + 2000, true, true}, {told + 2001, true, true}, {latest, true, true},
		} {
			x := New(1)
			tells(t, x, api.ToldNew, told, r, true)
			switch {
			case c.goes: // both at once
				ticks(t, x, c.now, []api.Route{expired}, []api.Route{expired})
				holds(t, x)
			case c.expires: // Until hangs on when it ended, not on when that was seen
				ticks(t, x, c.now, []api.Route{expired}, nil)
				holds(t, x, expired)
			default:
				ticks(t, x, c.now, nil, nil)
				holds(t, x, r)
			}
			ticks(t, x, c.now, nil, nil)
		}
	}
}

func TestTickOfARouteThatExpired(t *testing.T) { // P16.6
	r := fresh(0, tale(wide, 0, 1, 100))
	for _, c := range []struct {
		now  int
		goes bool
	}{{0, false}, {1000, false}, {1001, false}, {1999, false}, {2000, true}, {2001, true}, {latest, true}} {
		x := filled(t, 1, r)
		ticks(t, x, 1000, []api.Route{back(1000, r)}, nil)
		if c.goes {
			ticks(t, x, c.now, nil, []api.Route{back(1000, r)})
			holds(t, x)
		} else {
			ticks(t, x, c.now, nil, nil)
			holds(t, x, back(1000, r))
		}
	}
}

func TestTickOfARouteThatWasTakenBack(t *testing.T) { // P16.3, P16.6: it does not expire any more
	r := fresh(0, tale(wide, 0, 1, 100))
	for _, retract := range []bool{true, false} {
		x := filled(t, 1, r)
		if retract {
			x.Retract(300, 0, nb(1))
		} else {
			tells(t, x, api.ToldChanged, 300, held(77, tale(wide, 0, 1, inf)), true)
		}
		ticks(t, x, 1000, nil, nil)
		ticks(t, x, 1299, nil, nil)
		holds(t, x, back(300, r))
		ticks(t, x, 1300, nil, []api.Route{back(300, r)})
		holds(t, x)
	}
}

func TestTickTellsRoutesAsTheyAre(t *testing.T) { // P16.6
	r := tale(wide, 0, 1, 100)
	x := filled(t, 1, r)
	x.Reckon(func(r api.Route) uint16 { return r.Ref + 96 })
	selects(t, x, r)
	want := r
	want.Ref, want.Metric, want.Until, want.Selected = inf, 196, 2000, true
	ticks(t, x, 1500, []api.Route{want}, nil)
	x.Reckon(func(r api.Route) uint16 { return r.Ref })
	x.Unselect(wide)
	want.Metric, want.Selected = inf, false
	ticks(t, x, 2000, nil, []api.Route{want})
}

func TestTickOfSeveral(t *testing.T) { // P16.6
	l := []api.Route{
		fresh(0, held(300, tale(low, 0, 1, 1))), fresh(0, held(100, tale(wide, 0, 1, 2))), fresh(0, held(200, tale(wide, 0, 2, 3))),
		fresh(0, held(100, tale(wide, 1, 1, 4))), fresh(0, held(301, tale(narrow, 0, 1, 5))),
	}
	a, b, c, d, e := l[0], l[1], l[2], l[3], l[4]
	x := filled(t, 5, e, d, c, b, a)
	holds(t, x, l...)
	ended := func(r api.Route) api.Route { return back(r.Hold, r) }
	for _, step := range []struct {
		now           int
		expired, gone []api.Route
		stay          []api.Route
	}{
		{99, nil, nil, l},
		{100, []api.Route{ended(b), ended(d)}, nil, []api.Route{a, ended(b), c, ended(d), e}},
		{100, nil, nil, []api.Route{a, ended(b), c, ended(d), e}},
		{199, nil, nil, []api.Route{a, ended(b), c, ended(d), e}},
		{200, []api.Route{ended(c)}, []api.Route{ended(b), ended(d)}, []api.Route{a, ended(c), e}},
		{300, []api.Route{ended(a)}, nil, []api.Route{ended(a), ended(c), e}},
		{601, []api.Route{ended(e)}, []api.Route{ended(a), ended(c)}, []api.Route{ended(e)}},
		{602, nil, []api.Route{ended(e)}, nil},
		{603, nil, nil, nil},
	} {
		ticks(t, x, step.now, step.expired, step.gone)
		holds(t, x, step.stay...)
	}
}

func TestTickOfSomeThatGoAtOnce(t *testing.T) { // P16.6
	a, b, c := fresh(0, held(1000, tale(low, 0, 1, 1))), fresh(0, held(400, tale(wide, 0, 1, 2))), fresh(0, held(500, tale(narrow, 0, 1, 3)))
	d := fresh(0, held(900, tale(narrow, 1, 1, 3)))
	x := filled(t, 4, a, b, c, d)
	x.Retract(0, 1, nb(1))
	ticks(t, x, 999, []api.Route{back(400, b), back(500, c)}, []api.Route{back(400, b), back(0, d)}) // c is still there for a millisecond
	holds(t, x, a, back(500, c))
}

func TestTellHoldsOn(t *testing.T) { // P16.2, P16.6
	r := tale(wide, 0, 1, 100)
	x := filled(t, 1, r)
	tells(t, x, api.ToldChanged, 999, r, false)
	ticks(t, x, 1000, nil, nil)
	ticks(t, x, 1998, nil, nil)
	ticks(t, x, 1999, []api.Route{back(1999, fresh(0, r))}, nil)
	tells(t, x, api.ToldChanged, 2998, r, true) // on the last moment
	ticks(t, x, 2999, nil, nil)
	holds(t, x, fresh(2998, r))
	ticks(t, x, 3998, []api.Route{back(3998, fresh(0, r))}, nil)
}

func TestTimePassesByTickAlone(t *testing.T) { // P16.6
	r := tale(wide, 0, 1, 100)
	x := filled(t, 1, r)
	refuses(t, x, api.ErrMany, 9000, tale(wide, 0, 2, 100), true)
	holds(t, x, fresh(0, r))
	tells(t, x, api.ToldChanged, 9000, r, true)
	holds(t, x, fresh(9000, r))
}

func TestTheLeastAndTheLongestHold(t *testing.T) { // P16.2, P16.6
	for _, hold := range []int{1, 1 << 31} {
		r := fresh(10, held(hold, tale(wide, 0, 1, 100)))
		x := New(1)
		tells(t, x, api.ToldNew, 10, r, true)
		ticks(t, x, 9+hold, nil, nil)
		ticks(t, x, 10+hold, []api.Route{back(10+hold, r)}, nil)
		ticks(t, x, 9+2*hold, nil, nil)
		ticks(t, x, 10+2*hold, nil, []api.Route{back(10+hold, r)})
		holds(t, x)
	}
}

func TestNext(t *testing.T) { // P16.6
	x := New(3)
	comes := func(want int, some bool) {
		t.Helper()
		if at, ok := x.Next(); at != want || ok != some {
			t.Fatalf("Next() = %d, %v, want %d, %v", at, ok, want, some)
		}
	}
	comes(0, false)
	tells(t, x, api.ToldNew, 100, tale(wide, 0, 1, 1), true)
	comes(1100, true)
	tells(t, x, api.ToldNew, 200, tale(wide, 0, 2, 1), true)
	comes(1100, true)
	tells(t, x, api.ToldNew, 0, held(50, tale(low, 0, 1, 1)), true)
	comes(50, true)
	x.Tell(900, tale(low, 1, 1, 1), true) // refused
	x.Tell(0, tale(low, 1, 1, inf), true) // ignored
	comes(50, true)
	tells(t, x, api.ToldChanged, 40, held(2000, tale(low, 0, 1, 1)), true)
	comes(1100, true)
	tells(t, x, api.ToldChanged, 150, tale(wide, 0, 1, inf), true)
	comes(1150, true)
	x.Retract(500, 0, nb(2))
	comes(1150, true)
	x.Tick(1149)
	comes(1150, true)
	x.Tick(1150)
	comes(1500, true)
	x.Tick(2040) // the last one expires, and is there for its Hold
	comes(4040, true)
	x.Drop(1)
	comes(4040, true)
	x.Drop(0)
	comes(0, false)
	tells(t, x, api.ToldNew, 0, held(1, tale(low, 0, 1, 1)), true)
	comes(1, true)
	x.Tick(latest)
	comes(0, false)
}

func TestNextIsWhenTickHasSomethingToDo(t *testing.T) { // P16.6
	x := filled(t, 5, held(9, tale(low, 0, 1, 1)), held(3, tale(wide, 0, 1, 2)), held(3, tale(wide, 0, 2, 3)), held(70000, tale(narrow, 0, 1, 4)), held(1, tale(narrow, 0, 2, 5)))
	x.Retract(2, 0, nb(2))
	did := 0
	for at, ok := x.Next(); ok; at, ok = x.Next() {
		ticks(t, x, at-1, nil, nil)
		expired, gone := x.Tick(at)
		if len(expired)+len(gone) == 0 {
			t.Fatalf("Next() = %d, and there is nothing to do", at)
		}
		did += len(expired) + len(gone)
		if did > 8 {
			t.Fatal("there is always something to do")
		}
	}
	if did != 8 { // three expire, five are taken away
		t.Error(did)
	}
	holds(t, x)
}

func TestGoneBehindTwoHolds(t *testing.T) { // P16.10
	for _, hold := range []int{1, 2, 3, 1000, 56000, 1 << 31} {
		r := held(hold, tale(wide, 0, 1, 100))
		for _, do := range []func(x *Table){
			func(x *Table) {},
			func(x *Table) { x.Select(wide, 0, nb(1)) },
			func(x *Table) { x.Select(wide, 0, nb(1)); x.Tell(500+2*hold-1, r, false) }, // ignored: nobody told
			func(x *Table) { x.Tick(500 + hold) },
			func(x *Table) { x.Tick(500 + 2*hold - 1) },
			func(x *Table) { x.Reckon(func(r api.Route) uint16 { return r.Ref }) },
			func(x *Table) { x.Tell(500+2*hold, tale(wide, 0, 2, 100), true) }, // another neighbour tells
			func(x *Table) { x.Retract(500+hold, 0, nb(1)) },
		} {
			x := New(2)
			tells(t, x, api.ToldNew, 500, r, true)
			do(x)
			if _, there := x.Get(wide, 0, nb(1)); !there {
				t.Fatalf("Hold %d: gone too early", hold)
			}
			x.Tick(500 + 2*hold)
			lacks(t, x, wide, 0, nb(1))
		}
	}
}

func TestAnyNumbers(t *testing.T) { // rule 1: none panics, whatever is handed in
	numbers := []int{math.MinInt, math.MinInt + 1<<31, -1 << 31, -1, 0, 1, 1 << 31, latest, math.MaxInt - 1<<31, math.MaxInt}
	for _, most := range numbers {
		x := New(most)
		for _, a := range numbers {
			for _, b := range numbers {
				r := api.Route{Pair: api.Pair{Dst: api.Prefix{Len: a}, Src: api.Prefix{Len: b}}, If: b, Ref: uint16(a), Hold: b}
				x.Tell(a, r, true)
				x.Tell(a, held(1<<31, r), true)
				x.Tell(b, tale(wide, a, 1, 7), true)
				x.Select(wide, a, nb(1))
				x.Selected(r.Pair)
				x.Reckon(func(r api.Route) uint16 { return r.Ref })
				x.Retract(b, a, nb(1))
				x.Next()
				x.Pairs()
				x.Of(r.Pair)
				x.Unselect(r.Pair, wide, wide)
				if len(x.List()) > max(most, 0) {
					t.Fatal("more than there is room for")
				}
				x.Tick(b)
				x.Drop(a, api.Addr{}, nb(1))
			}
			x.Drop(a)
		}
	}
}
