package source

import (
	"math"
	"slices"
	"testing"

	"culvert/api"
)

func TestExampleOne(t *testing.T) { // P15.2, P15.3, P15.4
	x := New(1)
	must(t, x.Keep(7, wide, router(1), dist(5, 100)))
	must(t, x.Keep(7, wide, router(1), dist(5, 120)))
	holds(t, x, of(wide, 1, dist(5, 100), 7))
	if x.Feasible(wide, router(1), dist(5, 100)) || !x.Feasible(wide, router(1), dist(5, 99)) || !x.Feasible(wide, router(1), dist(6, 500)) {
		t.Error("Feasible")
	}
	if gone := x.Tick(180007); len(gone) != 1 {
		t.Error(gone)
	}
	holds(t, x)
	lacks(t, x, wide, router(1))
}

func TestTickAtTheEdge(t *testing.T) { // P15.4
	for _, at := range []int{0, 1, 5000, latest - 180001} {
		s := of(wide, 1, dist(5, 100), at)
		for _, c := range []struct {
			now  int
			gone bool
		}{
			{at, false}, {at + 1, false}, {at + 179999, false}, {at + 180000, true}, {at + 180001, true}, {latest, true},
			{0, false}, // the time ran back
		} {
			x := filled(t, 1, s)
			gone := x.Tick(c.now)
			if c.gone {
				if !slices.Equal(gone, []api.Source{s}) {
					t.Errorf("At %d: Tick(%d) = %v", at, c.now, gone)
				}
				holds(t, x)
				lacks(t, x, wide, router(1))
			} else {
				if len(gone) != 0 {
					t.Errorf("At %d: Tick(%d) = %v", at, c.now, gone)
				}
				holds(t, x, s)
			}
			if again := x.Tick(c.now); len(again) != 0 {
				t.Errorf("At %d: Tick(%d) again = %v", at, c.now, again)
			}
		}
	}
}

func TestTickOfSeveral(t *testing.T) { // P15.4
	a, b, c, d, e := of(low, 9, dist(1, 1), 300), of(wide, 1, dist(2, 2), 100), of(wide, 2, dist(3, 3), 200), of(narrow, 1, dist(4, 4), 100), of(narrow, 5, dist(5, 5), 301)
	x := filled(t, 5, e, d, c, b, a)
	holds(t, x, a, b, c, d, e)
	for _, step := range []struct {
		now  int
		gone []api.Source
		stay []api.Source
	}{
		{180099, nil, []api.Source{a, b, c, d, e}},
		{180100, []api.Source{b, d}, []api.Source{a, c, e}},
		{180100, nil, []api.Source{a, c, e}},
		{180199, nil, []api.Source{a, c, e}},
		{180300, []api.Source{a, c}, []api.Source{e}},
		{180301, []api.Source{e}, nil},
		{180302, nil, nil},
	} {
		if gone := x.Tick(step.now); !slices.Equal(gone, step.gone) {
			t.Fatalf("Tick(%d) = %v, want %v", step.now, gone, step.gone)
		}
		holds(t, x, step.stay...)
	}
}

func TestTickOfAllAtOnce(t *testing.T) { // P15.4
	l := []api.Source{of(low, 1, dist(1, 1), 5), of(wide, 1, dist(2, 2), 4), of(wide, 2, dist(3, 3), 3), of(narrow, 0, dist(4, 4), 2)}
	x := filled(t, 4, l[2], l[0], l[3], l[1])
	if gone := x.Tick(latest); !slices.Equal(gone, l) {
		t.Fatal(gone)
	}
	holds(t, x)
	if gone := x.Tick(latest); len(gone) != 0 {
		t.Fatal(gone)
	}
}

func TestWhatIsGoneBeginsAnew(t *testing.T) { // P15.2, P15.4
	x := filled(t, 1, of(wide, 1, dist(5, 100), 0))
	x.Tick(180000)
	must(t, x.Keep(180000, wide, router(1), dist(4, 900))) // worse than what was
	holds(t, x, of(wide, 1, dist(4, 900), 180000))
	if len(x.Tick(359999)) != 0 || len(x.Tick(360000)) != 1 {
		t.Error("the hold did not begin anew")
	}
}

func TestKeepHoldsOn(t *testing.T) { // P15.2, P15.4
	x := filled(t, 1, of(wide, 1, dist(5, 100), 0))
	must(t, x.Keep(179999, wide, router(1), dist(4, 900)))
	if len(x.Tick(180000)) != 0 || len(x.Tick(359998)) != 0 {
		t.Error("gone, though it was told again")
	}
	if gone := x.Tick(359999); !slices.Equal(gone, []api.Source{of(wide, 1, dist(5, 100), 179999)}) {
		t.Error(gone)
	}
}

func TestTimePassesByTickAlone(t *testing.T) { // P15.4
	x := filled(t, 1, of(wide, 1, dist(5, 100), 0))
	if e := x.Keep(180000, wide, router(2), dist(5, 100)); e != api.ErrMany {
		t.Error(e)
	}
	if x.Touch(200000, wide, router(2)) != 0 || x.Feasible(wide, router(1), dist(5, 100)) {
		t.Error("gone without a Tick")
	}
	if x.Touch(200000, wide, router(1)) != 1 {
		t.Error("gone without a Tick")
	}
	holds(t, x, of(wide, 1, dist(5, 100), 200000))
}

func TestTouch(t *testing.T) { // P15.4
	l := []api.Source{of(low, 1, dist(1, 1), 10), of(wide, 1, dist(2, 2), 20), of(wide, 2, dist(3, 3), 30), of(wide, 3, dist(4, 4), 40), of(narrow, 1, dist(5, 5), 50)}
	for _, c := range []struct {
		name    string
		p       api.Pair
		ids     []api.RouterId
		want    int
		touched []int
	}{
		{"nobody", wide, nil, 0, nil},
		{"an empty list", wide, []api.RouterId{}, 0, nil},
		{"one", wide, []api.RouterId{router(1)}, 1, []int{1}},
		{"one that is not there", wide, []api.RouterId{router(9)}, 0, nil},
		{"one of another pair", low, []api.RouterId{router(2)}, 0, nil},
		{"a pair that is not there", pair("10.0.0.0/8"), []api.RouterId{router(1), router(2)}, 0, nil},
		{"one twice", wide, []api.RouterId{router(2), router(2)}, 2, []int{2}},
		{"one three times, with others between", wide, []api.RouterId{router(2), router(1), router(2), router(9), router(2)}, 4, []int{1, 2}},
		{"one that is not there twice", wide, []api.RouterId{router(9), router(9)}, 0, nil},
		{"all", wide, []api.RouterId{router(3), router(2), router(1)}, 3, []int{1, 2, 3}},
		{"some that are not there", narrow, []api.RouterId{router(0), router(1), router(2)}, 1, []int{4}},
	} {
		for _, now := range []int{60, 5, 0, latest} {
			x, want := filled(t, len(l), l...), slices.Clone(l)
			for _, k := range c.touched {
				want[k].At = now
			}
			if got := x.Touch(now, c.p, c.ids...); got != c.want {
				t.Errorf("%s: %d, want %d", c.name, got, c.want)
			}
			holds(t, x, want...)
		}
	}
}

func TestTouchMakesNoSource(t *testing.T) { // P15.4
	x := New(3)
	if n := x.Touch(5, wide, router(1), router(2)); n != 0 {
		t.Error(n)
	}
	holds(t, x)
	lacks(t, x, wide, router(1))
}

func TestTouchHoldsOn(t *testing.T) { // P15.4
	x := filled(t, 2, of(wide, 1, dist(5, 100), 0), of(wide, 2, dist(5, 100), 0))
	if x.Touch(20, wide, router(1)) != 1 {
		t.Fatal("Touch")
	}
	if gone := x.Tick(180019); !slices.Equal(gone, []api.Source{of(wide, 2, dist(5, 100), 0)}) {
		t.Error(gone)
	}
	if gone := x.Tick(180020); !slices.Equal(gone, []api.Source{of(wide, 1, dist(5, 100), 20)}) {
		t.Error(gone)
	}
}

func TestNext(t *testing.T) { // P15.4
	comes := func(x *Table, want int, some bool) {
		t.Helper()
		if at, ok := x.Next(); at != want || ok != some {
			t.Fatalf("Next() = %d, %v, want %d, %v", at, ok, want, some)
		}
	}
	x := New(3)
	comes(x, 0, false)
	must(t, x.Keep(100, wide, router(1), dist(5, 100)))
	comes(x, 180100, true)
	must(t, x.Keep(200, wide, router(2), dist(5, 100)))
	comes(x, 180100, true)
	must(t, x.Keep(50, wide, router(3), dist(5, 100)))
	comes(x, 180050, true)
	must(t, x.Keep(300, wide, router(3), dist(5, 120))) // worse, but told
	comes(x, 180100, true)
	x.Keep(400, wide, router(1), dist(5, 65535)) // refused
	comes(x, 180100, true)
	x.Touch(150, wide, router(1))
	comes(x, 180150, true)
	x.Touch(250, wide, router(1))
	comes(x, 180200, true)
	x.Tick(180199)
	comes(x, 180200, true)
	x.Tick(180200)
	comes(x, 180250, true)
	x.Tick(180300)
	comes(x, 0, false)
	must(t, x.Keep(0, low, router(0), dist(0, 0)))
	comes(x, 180000, true)
}

func TestNextIsWhenTickTakesAway(t *testing.T) { // P15.4
	l := []api.Source{of(low, 1, dist(1, 1), 9), of(wide, 1, dist(2, 2), 3), of(wide, 2, dist(3, 3), 3), of(narrow, 1, dist(4, 4), 0), of(narrow, 2, dist(4, 4), 70000)}
	x := filled(t, len(l), l...)
	for range 4 {
		at, ok := x.Next()
		if !ok || len(x.Tick(at-1)) != 0 || len(x.Tick(at)) == 0 {
			t.Fatalf("Next() = %d, %v", at, ok)
		}
	}
	holds(t, x)
}

func TestWhatWasNotFeasibleStaysSo(t *testing.T) { // P15.5
	x := filled(t, 2, of(wide, 1, dist(100, 50), 0), of(wide, 2, dist(1, 1), 0))
	barred := []api.Distance{dist(100, 50), dist(100, 65534), dist(99, 0)}
	for _, c := range []struct{ told, kept api.Distance }{
		{dist(99, 0), dist(100, 50)},
		{dist(100, 60), dist(100, 50)},
		{dist(100, 40), dist(100, 40)},
		{dist(101, 900), dist(101, 900)},
		{dist(100, 0), dist(101, 900)},
		{dist(102, 3), dist(102, 3)},
		{dist(101, 0), dist(102, 3)},
		{dist(32866, 65534), dist(32866, 65534)},
	} {
		barred = append(barred, c.told)
		must(t, x.Keep(10, wide, router(1), c.told))
		x.Keep(30, wide, router(1), dist(c.told.Seqno, 65535))
		x.Touch(20, wide, router(1), router(1))
		x.Tick(180000) // takes the other one
		holds(t, x, of(wide, 1, c.kept, 20))
		for _, d := range barred {
			if x.Feasible(wide, router(1), d) {
				t.Fatalf("%v became feasible behind %v", d, c.told)
			}
		}
	}
	x.Tick(180020) // nothing is kept any more: all are
	for _, d := range barred {
		if !x.Feasible(wide, router(1), d) {
			t.Errorf("%v is not feasible, and nothing is kept", d)
		}
	}
}

func TestANilTable(t *testing.T) { // P15.4
	var x *Table
	if e := x.Keep(0, wide, router(1), dist(5, 100)); e != api.ErrNone {
		t.Error(e)
	}
	if e := x.Keep(0, wide, router(1), dist(5, 65535)); e != api.ErrNone {
		t.Error(e)
	}
	if s, ok := x.Get(wide, router(1)); s != (api.Source{}) || ok {
		t.Error(s, ok)
	}
	for _, d := range []api.Distance{{}, dist(5, 100), dist(5, 65534), dist(5, 65535)} {
		if !x.Feasible(wide, router(1), d) {
			t.Errorf("%v is not feasible", d)
		}
	}
	if len(x.Tick(latest)) != 0 || len(x.List()) != 0 {
		t.Error("there are sources")
	}
	if x.Touch(0, wide) != 0 || x.Touch(0, wide, router(1), router(2)) != 0 {
		t.Error("Touch")
	}
	if at, ok := x.Next(); at != 0 || ok {
		t.Error(at, ok)
	}
}

func TestNothingIsShared(t *testing.T) { // rule 3
	l := []api.Source{of(wide, 1, dist(5, 100), 1), of(wide, 2, dist(6, 50), 2), of(narrow, 1, dist(7, 70), 3)}
	x := filled(t, 4, l...)
	a, b := x.List(), x.List()
	blot := func(l []api.Source) {
		l = l[:cap(l)]
		for k := range l {
			l[k] = of(low, 99, dist(9, 9), -9)
		}
	}
	blot(a)
	if !slices.Equal(b, l) {
		t.Fatal("two answers share")
	}
	holds(t, x, l...)
	s, _ := x.Get(wide, router(1))
	must(t, x.Keep(10, wide, router(1), dist(8, 8)))
	x.Touch(20, wide, router(2))
	if !slices.Equal(b, l) || s != l[0] {
		t.Fatal("an answer changed later")
	}
	x.Touch(0, wide, router(1))
	gone := x.Tick(180003)
	want := []api.Source{of(wide, 1, dist(8, 8), 0), l[2]}
	if !slices.Equal(gone, want) {
		t.Fatal(gone)
	}
	must(t, x.Keep(180004, wide, router(1), dist(1, 1)))
	must(t, x.Keep(180004, narrow, router(1), dist(2, 2)))
	if !slices.Equal(gone, want) || !slices.Equal(b, l) {
		t.Fatal("an answer changed later")
	}
	blot(gone)
	blot(b)
	holds(t, x, of(wide, 1, dist(1, 1), 180004), of(wide, 2, dist(6, 50), 20), of(narrow, 1, dist(2, 2), 180004))
}

func TestWhatIsHandedInStays(t *testing.T) { // rule 3
	x := filled(t, 3, of(wide, 2, dist(5, 100), 1), of(wide, 1, dist(5, 100), 1))
	room := []api.RouterId{router(2), router(9), router(1), router(2), router(7), router(8)}
	ids, ahead := room[:4], slices.Clone(room)
	if n := x.Touch(5, wide, ids...); n != 3 {
		t.Error(n)
	}
	if !slices.Equal(room, ahead) {
		t.Errorf("%v, was %v", room, ahead)
	}
	for k := range room {
		room[k] = router(77)
	}
	holds(t, x, of(wide, 1, dist(5, 100), 5), of(wide, 2, dist(5, 100), 5))
}

func TestTablesAreApart(t *testing.T) { // P15.1
	a, b := New(2), New(2)
	must(t, a.Keep(1, wide, router(1), dist(5, 100)))
	holds(t, b)
	must(t, b.Keep(2, wide, router(1), dist(9, 9)))
	b.Tick(latest)
	holds(t, a, of(wide, 1, dist(5, 100), 1))
	holds(t, b)
}

func TestAnyNumbers(t *testing.T) { // rule 1: none panics, whatever is handed in
	numbers := []int{math.MinInt, math.MinInt + 180000, -180000, -1, 0, 1, 180000, latest, math.MaxInt - 180000, math.MaxInt}
	for _, most := range numbers {
		x := New(most)
		for _, a := range numbers {
			for _, b := range numbers {
				x.Keep(a, wide, router(1), dist(uint16(a), uint16(b)))
				x.Keep(b, api.Pair{Dst: api.Prefix{Len: a}, Src: api.Prefix{Len: b}}, api.RouterId{}, api.Distance{})
				x.Touch(b, wide, router(1), router(2), router(1))
				x.Feasible(wide, router(1), dist(uint16(b), uint16(a)))
				x.Get(api.Pair{Dst: api.Prefix{Len: b}}, router(1))
				x.Next()
				x.List()
				x.Tick(b)
				if len(x.List()) > max(most, 0) {
					t.Fatal("more than there is room for")
				}
			}
		}
	}
}
