package route

import (
	"math"
	"slices"
	"testing"

	"culvert/api"
)

// five is a table with five routes of three pairs, of two neighbours on two interfaces, and these in List's order.
func five(t *testing.T) (*Table, []api.Route) {
	t.Helper()
	l := []api.Route{tale(low, 0, 1, 10), tale(wide, 0, 1, 20), tale(wide, 0, 2, 30), tale(wide, 1, 1, 40), tale(narrow, 0, 2, 50)}
	x := filled(t, len(l), l[3], l[0], l[4], l[1], l[2])
	for k := range l {
		l[k] = fresh(0, l[k])
	}
	holds(t, x, l...)
	return x, l
}

func TestRetract(t *testing.T) { // P16.3
	for _, c := range []struct {
		name string
		i    int
		n    byte
		want []int
	}{
		{"two pairs", 0, 1, []int{0, 1}},
		{"the other neighbour", 0, 2, []int{2, 4}},
		{"the same address on another interface", 1, 1, []int{3}},
		{"a neighbour without routes", 0, 3, nil},
		{"one with routes on another interface alone", 1, 2, nil},
		{"no interface", -1, 1, nil},
		{"an interface without routes", 2, 1, nil},
	} {
		x, l := five(t)
		selects(t, x, l[1])
		l[1].Selected = true
		for _, k := range c.want {
			l[k] = back(700, l[k])
		}
		if n := x.Retract(700, c.i, nb(c.n)); n != len(c.want) {
			t.Errorf("%s: %d", c.name, n)
		}
		holds(t, x, l...)
		if n := x.Retract(800, c.i, nb(c.n)); n != 0 { // all are taken back already, and not held on
			t.Errorf("%s again: %d", c.name, n)
		}
		holds(t, x, l...)
	}
}

func TestRetractOfSomeThatAreTakenBackAlready(t *testing.T) { // P16.3
	x, l := five(t)
	tells(t, x, api.ToldChanged, 100, tale(low, 0, 1, inf), true)
	if n := x.Retract(300, 0, nb(1)); n != 1 {
		t.Error(n)
	}
	holds(t, x, back(100, l[0]), back(300, l[1]), l[2], l[3], l[4])
	tells(t, x, api.ToldChanged, 400, tale(low, 0, 1, 65534), true)
	if n := x.Retract(500, 0, nb(1)); n != 1 {
		t.Error(n)
	}
	again := back(500, fresh(0, tale(low, 0, 1, 65534)))
	holds(t, x, again, back(300, l[1]), l[2], l[3], l[4])
}

func TestRetractLeavesWhatWasTold(t *testing.T) { // P16.3
	r := held(2500, tale(wide, 0, 1, 20))
	x := filled(t, 1, r)
	x.Reckon(func(api.Route) uint16 { return 116 })
	selects(t, x, r)
	if n := x.Retract(latest, 0, nb(1)); n != 1 {
		t.Error(n)
	}
	want := r
	want.Ref, want.Metric, want.Until, want.Selected = inf, 116, latest+2500, true
	holds(t, x, want)
}

func TestReckon(t *testing.T) { // P16.4
	for _, c := range []struct {
		name string
		cost func(api.Route) uint16
		want []api.Pair
	}{
		{"all", func(r api.Route) uint16 { return r.Ref + 96 }, []api.Pair{low, wide, narrow}},
		{"none", func(r api.Route) uint16 { return r.Metric }, nil},
		{"none, by a number", func(r api.Route) uint16 { return inf }, nil},
		{"some", func(r api.Route) uint16 {
			if r.Ref == 30 || r.Ref == 50 {
				return 0
			}
			return inf
		}, []api.Pair{wide, narrow}},
		{"several of one pair", func(r api.Route) uint16 {
			if r.Pair == wide {
				return r.Ref
			}
			return r.Metric
		}, []api.Pair{wide}},
		{"the first and the last of a pair", func(r api.Route) uint16 {
			if r.Ref == 20 || r.Ref == 40 {
				return 1
			}
			return r.Metric
		}, []api.Pair{wide}},
		{"the first", func(r api.Route) uint16 {
			if r.Pair == low {
				return 65534
			}
			return r.Metric
		}, []api.Pair{low}},
		{"of an interface", func(r api.Route) uint16 {
			if r.If == 1 {
				return 5
			}
			return r.Metric
		}, []api.Pair{wide}},
	} {
		x, l := five(t)
		for k := range l {
			l[k].Metric = c.cost(l[k])
		}
		if got := x.Reckon(c.cost); !slices.Equal(got, c.want) {
			t.Errorf("%s: %v", c.name, got)
		}
		holds(t, x, l...)
		if got := x.Reckon(c.cost); len(got) != 0 { // nothing is another one than before
			t.Errorf("%s again: %v", c.name, got)
		}
		holds(t, x, l...)
	}
}

func TestReckonOfNil(t *testing.T) { // P16.4
	x, l := five(t)
	if got := x.Reckon(nil); len(got) != 0 {
		t.Error(got)
	}
	holds(t, x, l...)
	x.Reckon(func(r api.Route) uint16 { return r.Ref })
	ahead := x.List()
	if got := x.Reckon(nil); len(got) != 0 {
		t.Error(got)
	}
	holds(t, x, ahead...)
}

func TestCostIsToldOfEachRouteAsItIs(t *testing.T) { // P16.4
	x, _ := five(t)
	selects(t, x, tale(wide, 0, 2, 0))
	x.Retract(9, 1, nb(1))
	for round := range uint16(3) {
		ahead := x.List()
		var asked []api.Route
		x.Reckon(func(r api.Route) uint16 {
			asked = append(asked, r)
			return round
		})
		if !slices.Equal(asked, ahead) {
			t.Fatalf("cost was asked of %v, want %v", asked, ahead)
		}
	}
}

func TestReckonIsTheLastWord(t *testing.T) { // P16.4
	x, l := five(t)
	for _, m := range []uint16{0, 1, 65534, inf, 0} { // also of a route that was taken back
		got := x.Reckon(func(api.Route) uint16 { return m })
		if !slices.Equal(got, []api.Pair{low, wide, narrow}) {
			t.Errorf("%d: %v", m, got)
		}
		for k := range l {
			l[k].Metric = m
		}
		holds(t, x, l...)
		x.Retract(0, 0, nb(1))
		l[0], l[1] = back(0, l[0]), back(0, l[1])
		holds(t, x, l...)
	}
}

func TestSelect(t *testing.T) { // P16.5, P16.9
	x, l := five(t)
	lacksOne := func(p api.Pair) {
		t.Helper()
		if r, ok := x.Selected(p); r != (api.Route{}) || ok {
			t.Fatalf("Selected(%v) = %v, %v", p, r, ok)
		}
	}
	lacksOne(low)
	lacksOne(wide)
	selects(t, x, l[2])
	l[2].Selected = true
	holds(t, x, l...)
	selects(t, x, l[2]) // again
	holds(t, x, l...)
	selects(t, x, l[4]) // of another pair: both stay
	l[4].Selected = true
	holds(t, x, l...)
	selects(t, x, l[1]) // ahead of the one that was
	l[1].Selected, l[2].Selected = true, false
	holds(t, x, l...)
	selects(t, x, l[3]) // behind it
	l[1].Selected, l[3].Selected = false, true
	holds(t, x, l...)
	lacksOne(low)
	lacksOne(pair("10.0.0.0/8"))
}

func TestSelectOfARouteThatIsNotThere(t *testing.T) { // P16.5
	x, l := five(t)
	selects(t, x, l[1])
	l[1].Selected = true
	for _, r := range []api.Route{
		tale(wide, 1, 2, 0), tale(wide, 0, 3, 0), tale(wide, 2, 1, 0), tale(wide, -1, 1, 0),
		tale(narrow, 0, 1, 0), tale(pair("10.0.0.0/8"), 0, 1, 0), {}, {Pair: wide},
	} {
		if e := x.Select(r.Pair, r.If, r.From); e != api.ErrNone {
			t.Errorf("%v: %d", r, e)
		}
		holds(t, x, l...) // the one of its pair stays Selected
	}
}

func TestAnyRouteMayBeSelected(t *testing.T) { // P16.5: whether it leads anywhere is for whoever calls
	x, l := five(t)
	x.Retract(0, 0, nb(1))
	selects(t, x, l[1])
	holds(t, x, back(0, l[0]), taken(back(0, l[1])), l[2], l[3], l[4])
}

func TestUnselect(t *testing.T) { // P16.5
	ten := pair("10.0.0.0/8")
	for _, c := range []struct {
		name string
		l    []api.Pair
		want int
		stay []int
	}{
		{"none", nil, 0, []int{0, 3}},
		{"an empty list", []api.Pair{}, 0, []int{0, 3}},
		{"one", []api.Pair{wide}, 1, []int{0}},
		{"the other", []api.Pair{low}, 1, []int{3}},
		{"both", []api.Pair{wide, low}, 2, nil},
		{"one of which none is Selected", []api.Pair{narrow}, 0, []int{0, 3}},
		{"one without routes", []api.Pair{ten}, 0, []int{0, 3}},
		{"the zero pair, which is ::/0", []api.Pair{{}}, 1, []int{3}},
		{"one twice", []api.Pair{wide, wide}, 1, []int{0}},
		{"all, some twice", []api.Pair{wide, ten, low, narrow, wide, low, ten}, 2, nil},
	} {
		x, l := five(t)
		selects(t, x, l[0])
		selects(t, x, l[3])
		for _, k := range c.stay {
			l[k].Selected = true
		}
		if n := x.Unselect(c.l...); n != c.want {
			t.Errorf("%s: %d", c.name, n)
		}
		holds(t, x, l...)
		if n := x.Unselect(c.l...); n != 0 {
			t.Errorf("%s again: %d", c.name, n)
		}
	}
}

func TestSelectedStaysUntilItIsToldOtherwise(t *testing.T) { // P16.5
	r := tale(wide, 0, 1, 20)
	x := filled(t, 2, r, tale(wide, 0, 2, 30))
	selects(t, x, r)
	is := func(want api.Route) {
		t.Helper()
		if got, ok := x.Selected(wide); got != taken(want) || !ok {
			t.Fatalf("%v, %v, want %v", got, ok, taken(want))
		}
	}
	tells(t, x, api.ToldChanged, 10, r, true)
	is(fresh(10, r))
	r.Id = router(9)
	tells(t, x, api.ToldChanged, 20, r, false)
	is(fresh(20, r))
	x.Retract(30, 0, nb(1))
	is(back(30, fresh(0, r)))
	x.Reckon(func(api.Route) uint16 { return inf })
	is(back(30, fresh(0, r)))
	tells(t, x, api.ToldChanged, 40, r, true)
	x.Tick(1040)
	is(back(1040, fresh(0, r)))
	x.Tick(2040)
	if got, ok := x.Selected(wide); got != (api.Route{}) || ok {
		t.Fatal(got, ok)
	}
	tells(t, x, api.ToldNew, 3000, r, true) // the new one is not Selected
	holds(t, x, fresh(3000, r))
}

func TestDrop(t *testing.T) { // P16.7
	for _, c := range []struct {
		name string
		i    int
		from []api.Addr
		want []int
	}{
		{"none named", 0, nil, []int{0, 1, 2, 4}},
		{"an empty list", 0, []api.Addr{}, []int{0, 1, 2, 4}},
		{"none named on the other interface", 1, nil, []int{3}},
		{"one", 0, []api.Addr{nb(1)}, []int{0, 1}},
		{"the other one", 0, []api.Addr{nb(2)}, []int{2, 4}},
		{"one on the other interface", 1, []api.Addr{nb(1)}, []int{3}},
		{"one that is on the other interface", 1, []api.Addr{nb(2)}, nil},
		{"several", 0, []api.Addr{nb(2), nb(1)}, []int{0, 1, 2, 4}},
		{"one twice", 0, []api.Addr{nb(2), nb(2)}, []int{2, 4}},
		{"some that are not there", 0, []api.Addr{nb(9), nb(1), nb(8), {}}, []int{0, 1}},
		{"nobody that is there", 0, []api.Addr{nb(9), {}}, nil},
		{"an interface without routes", 2, nil, nil},
		{"an interface without routes, one named", 2, []api.Addr{nb(1)}, nil},
		{"no interface", -1, nil, nil},
		{"no interface at all", math.MinInt, []api.Addr{nb(1)}, nil},
	} {
		x, l := five(t)
		selects(t, x, l[1])
		x.Reckon(func(r api.Route) uint16 { return r.Ref })
		l = x.List()
		var want, stay []api.Route
		for k, r := range l {
			if slices.Contains(c.want, k) {
				want = append(want, r) // as it was, Selected too
			} else {
				stay = append(stay, r)
			}
		}
		if got := x.Drop(c.i, c.from...); !slices.Equal(got, want) {
			t.Errorf("%s: %v, want %v", c.name, got, want)
		}
		holds(t, x, stay...)
		for _, r := range want {
			lacks(t, x, r.Pair, r.If, r.From)
		}
		if got := x.Drop(c.i, c.from...); len(got) != 0 {
			t.Errorf("%s again: %v", c.name, got)
		}
		holds(t, x, stay...)
	}
}

func TestWhatWasDroppedBeginsAnew(t *testing.T) { // P16.2, P16.7
	r := tale(wide, 0, 1, 20)
	x := filled(t, 1, r)
	selects(t, x, r)
	x.Reckon(func(api.Route) uint16 { return 5 })
	x.Drop(0, nb(1))
	if got, ok := x.Selected(wide); got != (api.Route{}) || ok {
		t.Error(got, ok)
	}
	ignores(t, x, 5, r, false)
	ignores(t, x, 5, tale(wide, 0, 1, inf), true)
	tells(t, x, api.ToldNew, 7, r, true)
	holds(t, x, fresh(7, r))
}

func TestANilTable(t *testing.T) { // P16.8
	var x *Table
	r := tale(wide, 0, 1, 20)
	for _, hold := range []int{0, 1000, 1<<31 + 1} {
		for _, feasible := range []bool{true, false} {
			if k, e := x.Tell(0, held(hold, r), feasible); k != 0 || e != api.ErrNone {
				t.Error(k, e)
			}
		}
	}
	if x.Retract(0, 0, nb(1)) != 0 || x.Unselect() != 0 || x.Unselect(wide, low) != 0 {
		t.Error("there are routes")
	}
	if l := x.Reckon(func(api.Route) uint16 { t.Error("cost is asked"); return 0 }); len(l) != 0 || len(x.Reckon(nil)) != 0 {
		t.Error(l)
	}
	if e := x.Select(wide, 0, nb(1)); e != api.ErrNone {
		t.Error(e)
	}
	if got, ok := x.Selected(wide); got != (api.Route{}) || ok {
		t.Error(got, ok)
	}
	if expired, gone := x.Tick(latest); len(expired) != 0 || len(gone) != 0 {
		t.Error(expired, gone)
	}
	if at, ok := x.Next(); at != 0 || ok {
		t.Error(at, ok)
	}
	if len(x.Drop(0)) != 0 || len(x.Drop(0, nb(1))) != 0 || len(x.Of(wide)) != 0 || len(x.List()) != 0 || len(x.Pairs()) != 0 {
		t.Error("there are routes")
	}
	if got, ok := x.Get(wide, 0, nb(1)); got != (api.Route{}) || ok {
		t.Error(got, ok)
	}
}

// blot writes over a list, and its spare room.
func blot[T any](l []T, ink T) {
	l = l[:cap(l)]
	for k := range l {
		l[k] = ink
	}
}

func TestNothingIsShared(t *testing.T) { // rule 3
	ink, blue := taken(tale(narrow, 9, 99, 9)), pair("10.0.0.0/8")
	x, l := five(t)
	a, b, of, of2, all, all2 := x.List(), x.List(), x.Of(wide), x.Of(wide), x.Pairs(), x.Pairs()
	blot(a, ink)
	blot(of, ink)
	blot(all, blue)
	if !slices.Equal(b, l) || !slices.Equal(of2, l[1:4]) || !slices.Equal(all2, []api.Pair{low, wide, narrow}) {
		t.Fatal("two answers share")
	}
	holds(t, x, l...)
	changed := x.Reckon(func(r api.Route) uint16 { return r.Ref })
	got, _ := x.Get(wide, 0, nb(1))
	selects(t, x, l[1])
	one, _ := x.Selected(wide)
	ahead, want := x.List(), x.List()
	x.Retract(1, 0, nb(1))
	x.Reckon(func(r api.Route) uint16 { return 1 })
	x.Unselect(wide)
	expired, _ := x.Tick(1000) // all but those of neighbour 1 on interface 0
	wantExpired := slices.Clone(expired)
	dropped := x.Drop(1)
	wantDropped := slices.Clone(dropped)
	_, gone := x.Tick(2000)
	wantGone := slices.Clone(gone)
	holds(t, x)
	for _, r := range l {
		tells(t, x, api.ToldNew, 5000, r, true)
	}
	if !slices.Equal(b, l) || !slices.Equal(changed, []api.Pair{low, wide, narrow}) || !slices.Equal(ahead, want) || one != taken(got) || got.Metric != 20 {
		t.Fatal("an answer changed later")
	}
	if len(expired) != 3 || len(dropped) != 1 || len(gone) != 4 {
		t.Fatal(expired, dropped, gone)
	}
	if !slices.Equal(expired, wantExpired) || !slices.Equal(dropped, wantDropped) || !slices.Equal(gone, wantGone) {
		t.Fatal("an answer changed later")
	}
	now := x.List()
	blot(expired, ink)
	if !slices.Equal(gone, wantGone) {
		t.Fatal("the lists of one answer share")
	}
	blot(gone, ink)
	blot(dropped, ink)
	blot(changed, blue)
	blot(b, ink)
	holds(t, x, now...)
}

func TestTheListsOfOneTickAreApart(t *testing.T) { // rule 3
	x, _ := five(t)
	expired, gone := x.Tick(latest)
	want := slices.Clone(gone)
	blot(expired, api.Route{})
	if len(want) != 5 || !slices.Equal(gone, want) {
		t.Fatal(gone)
	}
}

func TestWhatIsHandedInStays(t *testing.T) { // rule 3
	x, l := five(t)
	selects(t, x, l[1])
	room := []api.Pair{wide, narrow, wide, low, low, wide}
	ahead := slices.Clone(room)
	if n := x.Unselect(room[:4]...); n != 1 || !slices.Equal(room, ahead) {
		t.Errorf("%d: %v, was %v", n, room, ahead)
	}
	blot(room, api.Pair{})
	holds(t, x, l...)
	from := []api.Addr{nb(2), nb(9), nb(2), nb(1), nb(1)}
	named := slices.Clone(from)
	if n := len(x.Drop(0, from[:3]...)); n != 2 || !slices.Equal(from, named) {
		t.Errorf("%d: %v, was %v", n, from, named)
	}
	blot(from, api.Addr{})
	holds(t, x, l[0], l[1], l[3])
}

func TestTablesAreApart(t *testing.T) { // P16.1
	a, b := New(2), New(2)
	r := tale(wide, 0, 1, 20)
	tells(t, a, api.ToldNew, 1, r, true)
	holds(t, b)
	tells(t, b, api.ToldNew, 2, r, true)
	selects(t, b, r)
	holds(t, a, fresh(1, r))
	b.Tick(latest)
	holds(t, a, fresh(1, r))
	holds(t, b)
}
