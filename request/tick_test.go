package request

import (
	"math"
	"slices"
	"testing"

	"culvert/api"
)

// run lets all that comes till then come, each at its time, and answers how many requests were sent again, and how many are gone.
func run(x *Table, till int) (int, int) {
	sent, ended := 0, 0
	for at, ok := x.Next(); ok && at <= till; at, ok = x.Next() {
		again, gone := x.Tick(at)
		if next, more := x.Next(); more && next <= at { // it would never come to an end
			panic("Next is not behind the Tick")
		}
		sent, ended = sent+len(again), ended+len(gone)
	}
	return sent, ended
}

// ends fails unless x, which has r alone, sends it three times more, each time behind a wait that is twice as long, and then has it no more.
func ends(t *testing.T, x *Table, r api.Pending) {
	t.Helper()
	asked := r.At - 2000
	for k, at := range []int{2000, 6000, 14000} {
		ticks(t, x, asked+at-1, nil, nil)
		r = tried(r, k+2, asked+at)
		ticks(t, x, asked+at, []api.Pending{r}, nil)
		holds(t, x, r)
		ticks(t, x, asked+at, nil, nil)
	}
	ticks(t, x, asked+29999, nil, nil)
	holds(t, x, r)
	ticks(t, x, asked+30000, nil, []api.Pending{r})
	holds(t, x)
	ticks(t, x, asked+30000, nil, nil)
}

// ticks fails unless Tick answers just that.
func ticks(t *testing.T, x *Table, now int, again, gone []api.Pending) {
	t.Helper()
	if a, g := x.Tick(now); !slices.Equal(a, again) || !slices.Equal(g, gone) {
		t.Fatalf("Tick(%d) = %v, %v, want %v, %v", now, a, g, again, gone)
	}
}

func TestExampleOne(t *testing.T) { // P18.2, P18.4, P18.5
	x := New(1)
	sends(t, x, 0, wide, router(1), 5)
	sendsNot(t, x, api.OK, 0, wide, router(1), 5)
	sendsNot(t, x, api.OK, 0, wide, router(1), 4)
	sends(t, x, 0, wide, router(1), 6)
	for k, at := range []int{2000, 6000, 14000} {
		ticks(t, x, at, []api.Pending{tried(first(wide, 1, 6, 0), k+2, at)}, nil)
	}
	ticks(t, x, 30000, nil, []api.Pending{{Pair: wide, Id: router(1), Seqno: 6, Tries: 4, At: 30000}})
	if Own(7, 9) != 8 || Own(7, 7) != 7 {
		t.Error("Own")
	}
}

func TestTickAtTheEdge(t *testing.T) { // P18.4
	for _, now := range []int{0, 1, 5000, latest - 40000} {
		for ticked := range 4 { // one that was sent so often again
			r := tried(first(wide, 1, 5, now), ticked+1, now+[]int{0, 2000, 6000, 14000}[ticked])
			for _, c := range []struct {
				at   int
				come bool
			}{{r.At - 1, false}, {r.At, true}, {r.At + 1, true}, {latest, true}, {now, false}, {0, false}} { // the last two: the time ran back
				x := filled(t, 1, first(wide, 1, 5, now))
				run(x, r.At-1)
				holds(t, x, r)
				switch {
				case !c.come:
					ticks(t, x, c.at, nil, nil)
					holds(t, x, r)
				case ticked == 3:
					ticks(t, x, c.at, nil, []api.Pending{r})
					holds(t, x)
				default:
					s := tried(r, ticked+2, c.at) // from now on, not from when it was due
					ticks(t, x, c.at, []api.Pending{s}, nil)
					holds(t, x, s)
				}
				ticks(t, x, c.at, nil, nil)
			}
		}
	}
}

func TestTickOfSeveral(t *testing.T) { // P18.4
	a, b, c, d, e := first(low, 9, 1, 300), first(wide, 1, 2, 100), first(wide, 2, 3, 200), first(narrow, 1, 4, 100), first(narrow, 5, 5, 301)
	x := filled(t, 5, e, d, c, b, a)
	holds(t, x, a, b, c, d, e)
	ticks(t, x, 2099, nil, nil)
	b, d = tried(b, 2, 2100), tried(d, 2, 2100)
	ticks(t, x, 2100, []api.Pending{b, d}, nil)
	ticks(t, x, 2199, nil, nil)
	a, c = tried(a, 2, 2300), tried(c, 2, 2300)
	ticks(t, x, 2300, []api.Pending{a, c}, nil) // c is late
	holds(t, x, a, b, c, d, e)
	b, d, e = tried(b, 3, 6100), tried(d, 3, 6100), tried(e, 2, 6100)
	ticks(t, x, 6100, []api.Pending{b, d, e}, nil) // of unlike tries
	holds(t, x, a, b, c, d, e)
}

func TestSomeGoSomeAreSentAgain(t *testing.T) { // P18.4
	x := New(4)
	sends(t, x, 0, wide, router(1), 1)
	sends(t, x, 0, low, router(1), 2)
	for _, at := range []int{2000, 6000, 14000} {
		x.Tick(at)
	}
	sends(t, x, 20000, wide, router(0), 3)
	sends(t, x, 28000, narrow, router(2), 4)
	a, c := tried(first(low, 1, 2, 0), 4, 14000), tried(first(wide, 1, 1, 0), 4, 14000)
	b, d := tried(first(wide, 0, 3, 20000), 2, 30000), tried(first(narrow, 2, 4, 28000), 2, 30000)
	ticks(t, x, 30000, []api.Pending{b, d}, []api.Pending{a, c})
	holds(t, x, b, d)
}

func TestAnEnd(t *testing.T) { // P18.6
	for _, now := range []int{0, 1, 77, latest - 30000} {
		for _, seqno := range []uint16{0, 5, 32768, 65535} {
			ends(t, filled(t, 1, first(wide, 1, seqno, now)), first(wide, 1, seqno, now))
			x := filled(t, 1, first(wide, 1, seqno, now))
			sent, gone := run(x, now+29999)
			if sent+1 != api.MaxTries || gone != 0 {
				t.Fatalf("asked at %d: sent %d times again, %d gone", now, sent, gone)
			}
			if sent, gone = run(x, now+30000); sent != 0 || gone != 1 {
				t.Fatalf("asked at %d: sent %d times again, %d gone", now, sent, gone)
			}
		}
	}
}

func TestAnEndOfEach(t *testing.T) { // P18.6: others make no odds, nor asking in vain
	x := New(3)
	sends(t, x, 0, wide, router(1), 5)
	sends(t, x, 700, wide, router(2), 5)
	sends(t, x, 1500, narrow, router(1), 5)
	for now := range 31501 {
		if now%100 == 50 && now < 30000 {
			sendsNot(t, x, api.OK, now, wide, router(1), 5)
		}
		again, gone := x.Tick(now)
		for _, r := range slices.Concat(again, gone) {
			asked := map[api.RouterId]int{router(1): 0, router(2): 700}[r.Id]
			if r.Pair == narrow {
				asked = 1500
			}
			if i := slices.Index([]int{2000, 6000, 14000, 30000}, now-asked); i < 0 || i == 3 && len(gone) != 1 || i < 3 && (len(again) != 1 || r.Tries != i+2) {
				t.Fatalf("at %d: %v, %v", now, again, gone)
			}
		}
	}
	holds(t, x)
}

func TestLateTicks(t *testing.T) { // P18.4: the wait begins when it is sent, so that it is never shorter
	x := filled(t, 1, first(wide, 1, 5, 0))
	r := tried(first(wide, 1, 5, 0), 2, 100000)
	ticks(t, x, 100000, []api.Pending{r}, nil)
	r = tried(r, 3, 104000)
	ticks(t, x, 104000, []api.Pending{r}, nil)
	r = tried(r, 4, 500000)
	ticks(t, x, 500000, []api.Pending{r}, nil)
	ticks(t, x, latest, nil, []api.Pending{r})
	holds(t, x)
}

func TestNext(t *testing.T) { // P18.4
	comes := func(x *Table, want int, some bool) {
		t.Helper()
		if at, ok := x.Next(); at != want || ok != some {
			t.Fatalf("Next() = %d, %v, want %d, %v", at, ok, want, some)
		}
	}
	x := New(3)
	comes(x, 0, false)
	sends(t, x, 100, wide, router(1), 5)
	comes(x, 2100, true)
	sends(t, x, 200, wide, router(2), 5)
	comes(x, 2100, true)
	sends(t, x, 50, narrow, router(3), 5)
	comes(x, 2050, true)
	x.Ask(60, low, router(3), 5) // no room
	x.Ask(60, wide, router(1), 5)
	comes(x, 2050, true)
	sends(t, x, 300, narrow, router(3), 6) // a newer one
	comes(x, 2100, true)
	x.Tick(2099)
	comes(x, 2100, true)
	x.Tick(2100) // till 6100
	comes(x, 2200, true)
	x.Met(wide, router(2), dist(4, 0)) // not met
	comes(x, 2200, true)
	x.Met(wide, router(2), dist(5, 0))
	comes(x, 2300, true)
	x.Forget(narrow)
	comes(x, 6100, true)
	x.Tick(6100)
	comes(x, 14100, true)
	x.Tick(14100)
	comes(x, 30100, true)
	x.Tick(30100)
	comes(x, 0, false)
	sends(t, x, 0, low, router(0), 0)
	comes(x, 2000, true)
}

func TestNextIsWhenThereIsSomethingToDo(t *testing.T) { // P18.4
	x := filled(t, 4, first(low, 1, 1, 9), first(wide, 1, 2, 3), first(wide, 2, 3, 3), first(narrow, 1, 4, 7000))
	for range 12 { // of four tries of each: two of these come together
		at, ok := x.Next()
		if !ok {
			t.Fatal("none")
		}
		ticks(t, x, at-1, nil, nil)
		if again, gone := x.Tick(at); len(again)+len(gone) == 0 {
			t.Fatalf("nothing to do at %d", at)
		}
	}
	holds(t, x)
}

func TestANilTable(t *testing.T) { // P18.4
	var x *Table
	for _, seqno := range []uint16{0, 5, 65535} {
		if ok, e := x.Ask(0, wide, router(1), seqno); ok || e != api.ErrNone {
			t.Error(ok, e)
		}
		if x.Met(wide, router(1), dist(seqno, 0)) || x.Met(api.Pair{}, api.RouterId{}, dist(seqno, 65535)) {
			t.Error("Met")
		}
	}
	if x.Forget() != 0 || x.Forget(wide, wide, api.Pair{}) != 0 {
		t.Error("Forget")
	}
	ticks(t, x, 0, nil, nil)
	ticks(t, x, latest, nil, nil)
	holds(t, x)
}

func TestNothingIsShared(t *testing.T) { // rule 3
	l := []api.Pending{first(wide, 1, 5, 1), first(wide, 2, 6, 2), first(narrow, 1, 7, 3)}
	x := filled(t, 4, l...)
	blot := func(l []api.Pending) {
		l = l[:cap(l)]
		for k := range l {
			l[k] = first(low, 99, 9, -9)
		}
	}
	a, b := x.List(), x.List()
	blot(a)
	if !slices.Equal(b, l) {
		t.Fatal("two answers share")
	}
	holds(t, x, l...)
	again, none := x.Tick(2002)
	want := []api.Pending{tried(l[0], 2, 2002), tried(l[1], 2, 2002)}
	if !slices.Equal(again, want) || len(none) != 0 {
		t.Fatal(again, none)
	}
	sends(t, x, 2003, wide, router(1), 9)
	x.Met(wide, router(2), dist(6, 0))
	x.Forget(narrow)
	if !slices.Equal(again, want) || !slices.Equal(b, l) {
		t.Fatal("an answer changed later")
	}
	blot(again)
	blot(b)
	holds(t, x, first(wide, 1, 9, 2003))
	run(x, 20000)
	sends(t, x, 30003, narrow, router(1), 7)
	again, gone := x.Tick(32003)
	last, next := tried(first(wide, 1, 9, 2003), 4, 16003), tried(first(narrow, 1, 7, 0), 2, 32003)
	blot(again)
	if !slices.Equal(gone, []api.Pending{last}) {
		t.Fatal("two answers share", gone)
	}
	blot(gone)
	holds(t, x, next)
}

func TestWhatIsHandedInStays(t *testing.T) { // rule 3
	x := filled(t, 3, first(low, 1, 5, 0), first(wide, 1, 5, 0), first(narrow, 1, 5, 0))
	room := []api.Pair{wide, pair("::/1"), wide, pair("10.0.0.0/8"), narrow, low}
	l, ahead := room[:4], slices.Clone(room) // behind these lies spare room
	if n := x.Forget(l...); n != 1 {
		t.Error(n)
	}
	if !slices.Equal(room, ahead) {
		t.Errorf("%v, was %v", room, ahead)
	}
	for k := range room {
		room[k] = narrow
	}
	holds(t, x, first(low, 1, 5, 0), first(narrow, 1, 5, 0))
}

func TestTablesAreApart(t *testing.T) { // P18.1
	a, b := New(2), New(2)
	sends(t, a, 1, wide, router(1), 5)
	holds(t, b)
	sends(t, b, 2, wide, router(1), 9)
	b.Forget(wide)
	holds(t, a, first(wide, 1, 5, 1))
	holds(t, b)
}

func TestAnyNumbers(t *testing.T) { // rule 1: none panics, whatever is handed in
	numbers := []int{math.MinInt, math.MinInt + 2000, -2000, -1, 0, 1, 2000, latest, math.MaxInt - 2000, math.MaxInt}
	for _, most := range numbers {
		x := New(most)
		for _, a := range numbers {
			for _, b := range numbers {
				x.Ask(a, wide, router(1), uint16(b))
				x.Ask(b, api.Pair{Dst: api.Prefix{Len: a}, Src: api.Prefix{Len: b}}, api.RouterId{}, uint16(a))
				x.Tick(b)
				x.Tick(a)
				x.Next()
				x.Met(wide, router(1), dist(uint16(a), uint16(b)))
				x.Forget(wide, api.Pair{Dst: api.Prefix{Len: b}}, api.Pair{Dst: api.Prefix{Len: b}})
				for _, r := range x.List() {
					if r.Tries < 1 || r.Tries > api.MaxTries {
						t.Fatal(r)
					}
				}
				if len(x.List()) > max(most, 0) {
					t.Fatal("more than there is room for")
				}
			}
		}
	}
}
