package request

import (
	"math"
	"slices"
	"testing"

	"culvert/addr"
	"culvert/api"
)

const latest = 1 << 40 // of times

// pair reads a pair that is written as it ought to be.
func pair(s string) api.Pair {
	p, e := addr.ParsePair(s)
	if e != api.OK {
		panic(s)
	}
	return p
}

// wide and narrow have one Dst; low lies ahead of both.
var (
	low    = pair("::/0")
	wide   = pair("2001:db8::/32")
	narrow = pair("2001:db8::/32 from 2001::/16")
)

// router is a router's name.
func router(n byte) api.RouterId {
	return api.RouterId{7: n}
}

func dist(seqno, metric uint16) api.Distance {
	return api.Distance{Seqno: seqno, Metric: metric}
}

// first is a request that was sent once.
func first(p api.Pair, n byte, seqno uint16, now int) api.Pending {
	return api.Pending{Pair: p, Id: router(n), Seqno: seqno, Tries: 1, At: now + 2000}
}

// tried is r behind so many tries, the last of which was at now.
func tried(r api.Pending, tries, now int) api.Pending {
	r.Tries, r.At = tries, now+[]int{0, 2000, 4000, 8000, 16000}[tries]
	return r
}

// sends fails unless Ask says that the request is to be sent.
func sends(t *testing.T, x *Table, now int, p api.Pair, id api.RouterId, seqno uint16) {
	t.Helper()
	if ok, e := x.Ask(now, p, id, seqno); !ok || e != api.OK {
		t.Fatalf("Ask(%d, %v, %v, %d) = %v, %d, want it sent", now, p, id, seqno, ok, e)
	}
}

// sendsNot fails unless Ask says that it is not, with that error, and leaves all as it was.
func sendsNot(t *testing.T, x *Table, want api.Errno, now int, p api.Pair, id api.RouterId, seqno uint16) {
	t.Helper()
	ahead := x.List()
	if ok, e := x.Ask(now, p, id, seqno); ok || e != want {
		t.Fatalf("Ask(%d, %v, %v, %d) = %v, %d, want false, %d", now, p, id, seqno, ok, e, want)
	}
	holds(t, x, ahead...)
}

// filled is a table in which each of these requests was asked for once, at its At less 2000.
func filled(t *testing.T, most int, l ...api.Pending) *Table {
	t.Helper()
	x := New(most)
	for _, r := range l {
		sends(t, x, r.At-2000, r.Pair, r.Id, r.Seqno)
	}
	return x
}

// holds fails unless x has just these requests.
func holds(t *testing.T, x *Table, want ...api.Pending) {
	t.Helper()
	if got := x.List(); !slices.Equal(got, want) {
		t.Fatalf("List() = %v, want %v", got, want)
	}
	least := math.MaxInt
	for _, r := range want {
		least = min(least, r.At)
	}
	at, ok := x.Next()
	if len(want) == 0 && (at != 0 || ok) || len(want) > 0 && (at != least || !ok) {
		t.Fatalf("Next() = %d, %v with %v", at, ok, want)
	}
}

func TestANewTableHasNoRequests(t *testing.T) { // P18.1
	for _, most := range []int{math.MinInt, -1, 0, 1, 2, 4096, math.MaxInt} {
		x := New(most)
		if x == nil {
			t.Fatal("New is nil")
		}
		holds(t, x)
		again, gone := x.Tick(latest)
		if len(again) != 0 || len(gone) != 0 || x.Forget(wide, api.Pair{}) != 0 || x.Met(wide, router(1), dist(5, 0)) || x.Met(api.Pair{}, api.RouterId{}, api.Distance{}) {
			t.Errorf("New(%d) has a request", most)
		}
	}
}

func TestRoomForNone(t *testing.T) { // P18.1, P18.2
	for _, most := range []int{0, -1, -4096, math.MinInt} {
		x := New(most)
		for range 2 {
			sendsNot(t, x, api.ErrMany, 0, wide, router(1), 5)
			sendsNot(t, x, api.ErrMany, 0, api.Pair{}, api.RouterId{}, 0)
		}
	}
}

func TestRoomForOne(t *testing.T) { // P18.1, P18.2
	x := filled(t, 1, first(wide, 1, 5, 0))
	sendsNot(t, x, api.ErrMany, 9, wide, router(2), 5)
	sendsNot(t, x, api.ErrMany, 9, narrow, router(1), 6)
	sendsNot(t, x, api.OK, 9, wide, router(1), 5) // there already: room has no part
	sendsNot(t, x, api.OK, 9, wide, router(1), 4)
	sends(t, x, 9, wide, router(1), 6) // in place of the one that is there
	holds(t, x, first(wide, 1, 6, 9))
	if !x.Met(wide, router(1), dist(6, 1)) {
		t.Fatal("Met")
	}
	sends(t, x, 20, narrow, router(2), 1)
	holds(t, x, first(narrow, 2, 1, 20))
}

func TestNeverMoreThanThereIsRoomFor(t *testing.T) { // P18.1, P18.7
	for _, most := range []int{math.MinInt, -1, 0, 1, 2, 3, 16, 300} {
		x, room := New(most), max(most, 0)
		for n := range 400 {
			id := api.RouterId{0: byte(n >> 8), 1: byte(n)}
			ok, e := x.Ask(n, wide, id, 7)
			if ok != (n < room) || n < room && e != api.OK || n >= room && e != api.ErrMany {
				t.Fatalf("New(%d): request %d: %v, %d", most, n, ok, e)
			}
			if got := len(x.List()); got != min(n+1, room) {
				t.Fatalf("New(%d): %d requests behind %d", most, got, n+1)
			}
		}
		for n := range room { // a full table takes newer ones of those that it has
			sends(t, x, 500, wide, api.RouterId{0: byte(n >> 8), 1: byte(n)}, 8)
		}
		if got := len(x.List()); got != room {
			t.Fatalf("New(%d): %d requests", most, got)
		}
	}
}

func TestRoomComesBack(t *testing.T) { // P18.1, P18.3, P18.4, P18.7
	fill := func() *Table {
		return filled(t, 3, first(wide, 1, 5, 0), first(wide, 2, 5, 0), first(narrow, 1, 5, 100))
	}
	for name, c := range map[string]struct {
		free func(x *Table)
		room int
	}{
		"Met":             {func(x *Table) { x.Met(wide, router(2), dist(5, 0)) }, 1},
		"Met of a worse":  {func(x *Table) { x.Met(wide, router(2), dist(4, 0)) }, 0},
		"Forget":          {func(x *Table) { x.Forget(wide) }, 2},
		"Forget of none":  {func(x *Table) { x.Forget(low) }, 0},
		"Tick once":       {func(x *Table) { x.Tick(latest) }, 0},
		"Tick to the end": {func(x *Table) { run(x, 30000) }, 2},
		"Tick to all end": {func(x *Table) { run(x, 30100) }, 3},
	} {
		x := fill()
		c.free(x)
		for n := range c.room {
			sends(t, x, 40000, low, router(byte(n)), 1)
		}
		ahead := x.List()
		sendsNot(t, x, api.ErrMany, 40000, low, router(99), 1)
		if len(ahead) != 3 {
			t.Errorf("%s: %v", name, ahead)
		}
	}
}

func TestAsk(t *testing.T) { // P18.2
	for _, c := range []struct {
		name         string
		there, asked uint16
		send         bool
	}{
		{"the same", 5, 5, false},
		{"older", 5, 4, false},
		{"newer", 5, 6, true},
		{"much older", 5, 60000, false},
		{"the newest that there is", 5, 32772, true},
		{"half the way round", 5, 32773, false},
		{"half the way round, the other way", 32773, 5, false},
		{"the oldest that there is", 5, 32774, false},
		{"newer across 65536", 65535, 0, true},
		{"older across 65536", 0, 65535, false},
		{"the same at 0", 0, 0, false},
		{"the same at 65535", 65535, 65535, false},
		{"half the way round from 0", 0, 32768, false},
		{"newest from 65535", 65535, 32766, true},
	} {
		x := filled(t, 2, first(wide, 1, c.there, 10), first(wide, 2, 9, 10))
		if !c.send {
			sendsNot(t, x, api.OK, 25, wide, router(1), c.asked)
			holds(t, x, first(wide, 1, c.there, 10), first(wide, 2, 9, 10))
			continue
		}
		if ok, e := x.Ask(25, wide, router(1), c.asked); !ok || e != api.OK {
			t.Errorf("%s: %v, %d", c.name, ok, e)
		}
		holds(t, x, first(wide, 1, c.asked, 25), first(wide, 2, 9, 10))
	}
}

func TestWhatIsAskedFirst(t *testing.T) { // P18.2
	for _, seqno := range []uint16{0, 1, 5, 32767, 32768, 65535} { // nothing is there: none is too old
		for _, now := range []int{0, 1, 5000, latest} {
			x := New(1)
			sends(t, x, now, wide, router(1), seqno)
			holds(t, x, first(wide, 1, seqno, now))
			sendsNot(t, x, api.OK, now, wide, router(1), seqno)
		}
	}
}

func TestAskedAgainWithANewerSeqnoBehindSomeTicks(t *testing.T) { // P18.2, P18.4
	for ticks := range 4 {
		x := filled(t, 1, first(wide, 1, 5, 0))
		now := 0
		for range ticks {
			now, _ = x.Next()
			x.Tick(now)
		}
		holds(t, x, tried(first(wide, 1, 5, 0), ticks+1, now))
		sendsNot(t, x, api.OK, now+3, wide, router(1), 5)
		sendsNot(t, x, api.OK, now+3, wide, router(1), 4)
		sends(t, x, now+7, wide, router(1), 6)
		holds(t, x, first(wide, 1, 6, now+7))
		ends(t, x, first(wide, 1, 6, now+7)) // with all its tries
	}
}

func TestWhatIsMetOrGoneMayBeAskedAnew(t *testing.T) { // P18.2, P18.3, P18.4
	x := filled(t, 1, first(wide, 1, 5, 0))
	x.Met(wide, router(1), dist(5, 1))
	sends(t, x, 10, wide, router(1), 4) // older than the one that was
	holds(t, x, first(wide, 1, 4, 10))
	x.Forget(wide)
	sends(t, x, 20, wide, router(1), 4)
	run(x, 30020)
	sends(t, x, 30020, wide, router(1), 3)
	holds(t, x, first(wide, 1, 3, 30020))
}

func TestMet(t *testing.T) { // P18.3
	for _, c := range []struct {
		name string
		p    api.Pair
		id   api.RouterId
		d    api.Distance
		want bool
	}{
		{"the seqno itself", wide, router(1), dist(5, 100), true},
		{"metric 0", wide, router(1), dist(5, 0), true},
		{"just below Infinity", wide, router(1), dist(5, 65534), true},
		{"at Infinity", wide, router(1), dist(5, 65535), false},
		{"newer, at Infinity", wide, router(1), dist(6, 65535), false},
		{"one newer", wide, router(1), dist(6, 100), true},
		{"the newest that there is", wide, router(1), dist(32772, 100), true},
		{"half the way round", wide, router(1), dist(32773, 100), false},
		{"the oldest that there is", wide, router(1), dist(32774, 100), false},
		{"one older", wide, router(1), dist(4, 0), false},
		{"older across 65536", wide, router(1), dist(65535, 0), false},
		{"another id", wide, router(2), dist(5, 100), false},
		{"an id that ends alike", wide, api.RouterId{0: 1, 7: 1}, dist(5, 100), false},
		{"another pair", low, router(1), dist(5, 100), false},
		{"a pair with the same Dst", narrow, router(1), dist(5, 100), false},
	} {
		there := first(wide, 1, 5, 10)
		x := filled(t, 1, there)
		if got := x.Met(c.p, c.id, c.d); got != c.want {
			t.Errorf("%s: %v", c.name, got)
		}
		if !c.want {
			holds(t, x, there)
			continue
		}
		holds(t, x)
		if x.Met(c.p, c.id, c.d) {
			t.Errorf("%s: met twice", c.name)
		}
	}
}

func TestMetTakesOneAlone(t *testing.T) { // P18.3
	a, b, c, d := first(low, 1, 5, 1), first(wide, 1, 5, 2), first(wide, 2, 5, 3), first(narrow, 1, 5, 4)
	x := filled(t, 4, d, c, b, a)
	if !x.Met(wide, router(1), dist(9, 9)) {
		t.Fatal("not met")
	}
	holds(t, x, a, c, d)
	x.Tick(2001)
	if !x.Met(low, router(1), dist(5, 9)) { // one that was sent again
		t.Fatal("not met")
	}
	holds(t, x, c, d)
}

func TestForget(t *testing.T) { // P18.3
	l := []api.Pending{first(low, 1, 1, 10), first(wide, 1, 2, 20), first(wide, 2, 3, 30), first(wide, 3, 4, 40), first(narrow, 1, 5, 50), first(narrow, 9, 6, 60)}
	for _, c := range []struct {
		name string
		l    []api.Pair
		stay []int
	}{
		{"nobody", nil, []int{0, 1, 2, 3, 4, 5}},
		{"an empty list", []api.Pair{}, []int{0, 1, 2, 3, 4, 5}},
		{"one that is not there", []api.Pair{pair("10.0.0.0/8")}, []int{0, 1, 2, 3, 4, 5}},
		{"one", []api.Pair{low}, []int{1, 2, 3, 4, 5}},
		{"one with several ids", []api.Pair{wide}, []int{0, 4, 5}},
		{"one with another Src", []api.Pair{narrow}, []int{0, 1, 2, 3}},
		{"one twice", []api.Pair{wide, wide}, []int{0, 4, 5}},
		{"one three times, with others between", []api.Pair{narrow, low, narrow, pair("::/1"), narrow}, []int{1, 2, 3}},
		{"one that is not there twice", []api.Pair{pair("::/1"), pair("::/1")}, []int{0, 1, 2, 3, 4, 5}},
		{"two", []api.Pair{narrow, wide}, []int{0}},
		{"all", []api.Pair{wide, narrow, low}, nil},
		{"one the other way round", []api.Pair{{Dst: narrow.Src, Src: narrow.Dst}}, []int{0, 1, 2, 3, 4, 5}},
	} {
		x := filled(t, len(l), l...)
		var stay []api.Pending
		for _, k := range c.stay {
			stay = append(stay, l[k])
		}
		if n := x.Forget(c.l...); n != len(l)-len(stay) {
			t.Errorf("%s: %d", c.name, n)
		}
		holds(t, x, stay...)
		if n := x.Forget(c.l...); n != 0 {
			t.Errorf("%s: again %d", c.name, n)
		}
		holds(t, x, stay...)
	}
}

func TestForgetOfVeryMany(t *testing.T) { // P18.3
	x := New(api.MaxCap)
	var l []api.Pair
	for n := range 100000 {
		p := api.Pair{Dst: api.Prefix{A: api.Addr{0: 32, 1: byte(n >> 16), 2: byte(n >> 8), 3: byte(n)}, Len: 32}}
		if l = append(l, p); n < api.MaxCap {
			sends(t, x, n, p, router(byte(n)), uint16(n))
		}
	}
	if n := x.Forget(l[1:]...); n != api.MaxCap-1 {
		t.Error(n)
	}
	holds(t, x, first(l[0], 0, 0, 0))
}

func TestEachPartTellsRequestsApart(t *testing.T) { // P18.2, P18.3
	p := pair("10.0.0.0/8 from 1.0.0.0/8")
	dstA, dstLen, srcA, srcLen := p, p, p, p
	dstA.Dst.A[15] = 1
	dstLen.Dst.Len++
	srcA.Src.A[15] = 1
	srcLen.Src.Len++
	x := filled(t, 1, first(p, 1, 5, 1))
	for _, q := range []api.Pair{dstA, dstLen, srcA, srcLen, {Dst: p.Src, Src: p.Dst}} {
		sendsNot(t, x, api.ErrMany, 2, q, router(1), 9)
		if x.Met(q, router(1), dist(5, 0)) || x.Forget(q) != 0 {
			t.Errorf("%v stands for %v", q, p)
		}
	}
	for k := range 8 {
		id := router(1)
		id[k] ^= 0x80
		sendsNot(t, x, api.ErrMany, 2, p, id, 9)
		if x.Met(p, id, dist(5, 0)) {
			t.Errorf("%v stands for %v", id, router(1))
		}
	}
	holds(t, x, first(p, 1, 5, 1))
}

func TestListStandsInOrder(t *testing.T) { // P18.3, P18.4
	pairs := []api.Pair{
		{}, {Src: api.Prefix{Len: 1}}, low,
		pair("10.0.0.0/8"), pair("10.0.0.0/8 from 1.0.0.0/8"), pair("10.0.0.0/8 from 1.0.0.0/9"), pair("10.0.0.0/8 from 2.0.0.0/8"),
		pair("10.0.0.0/16"), pair("10.0.0.0/16 from 1.0.0.0/8"), pair("10.1.0.0/16"), pair("200.0.0.0/8"),
		wide, narrow, pair("2001:db8::/33"), pair("2001:db8:1::/48"), pair("fe80::/64"),
	}
	slices.SortFunc(pairs, addr.ComparePair)
	pairs = slices.Compact(pairs)
	ids := []api.RouterId{{}, {7: 1}, {7: 2}, {7: 0x80}, {7: 0xff}, {6: 1}, {0: 1}, {0: 1, 7: 1}, {0: 0x7f}, {0: 0x80}, {0: 0xff}} // the first of these differ in the last byte alone
	var want []api.Pending
	for k, p := range pairs {
		for m, id := range ids {
			want = append(want, api.Pending{Pair: p, Id: id, Seqno: uint16(k * m), Tries: 1, At: 4000 - k*m})
		}
	}
	for _, step := range []int{1, 7, 29, 83} { // in several orders
		x := New(len(want))
		for k := range want {
			r := want[k*step%len(want)]
			sends(t, x, r.At-2000, r.Pair, r.Id, r.Seqno)
		}
		for range 3 { // not as the map gives them
			holds(t, x, want...)
		}
		again, gone := x.Tick(5000)
		sentAgain := slices.Clone(want)
		for k := range sentAgain {
			sentAgain[k] = tried(sentAgain[k], 2, 5000)
		}
		if !slices.Equal(again, sentAgain) || len(gone) != 0 {
			t.Fatalf("Tick told them in another order: %v, %v", again, gone)
		}
		x.Tick(9000)
		x.Tick(17000)
		again, gone = x.Tick(latest)
		for k := range sentAgain {
			sentAgain[k] = tried(sentAgain[k], 4, 17000)
		}
		if len(again) != 0 || !slices.Equal(gone, sentAgain) {
			t.Fatalf("Tick told them in another order: %v, %v", again, gone)
		}
		holds(t, x)
	}
}

func TestAnyPairMayBeAskedFor(t *testing.T) { // P18.2, P18.3: no word of the chapter refuses one
	x := New(8)
	for _, p := range []api.Pair{
		{}, {Dst: api.Prefix{Len: 129}}, {Dst: api.Prefix{Len: -1}}, {Src: api.Prefix{Len: math.MaxInt}}, {Src: api.Prefix{Len: math.MinInt}},
		{Dst: api.Prefix{A: api.Addr{15: 1}, Len: 8}}, {Dst: wide.Dst, Src: pair("10.0.0.0/8").Dst},
	} {
		sends(t, x, 4, p, router(1), 5)
		sendsNot(t, x, api.OK, 4, p, router(1), 5)
	}
	l := x.List()
	if len(l) != 7 || !slices.IsSortedFunc(l, func(a, b api.Pending) int { return addr.ComparePair(a.Pair, b.Pair) }) {
		t.Error(l)
	}
	for _, r := range l {
		if !x.Met(r.Pair, r.Id, dist(5, 0)) {
			t.Errorf("%v is not met", r)
		}
	}
	holds(t, x)
}

func TestOwn(t *testing.T) { // P18.5
	for _, c := range []struct{ own, asked, want uint16 }{
		{7, 9, 8}, {7, 8, 8}, {7, 7, 7}, {7, 6, 7}, {9, 7, 9}, // less, equal, greater
		{0, 0, 0}, {0, 1, 1}, {0, 65535, 0}, {1, 0, 1},
		{65535, 65535, 65535}, {65535, 0, 0}, {65535, 1, 0}, {65535, 32766, 0}, {65535, 32767, 65535}, {65535, 65534, 65535}, {65534, 65535, 65535}, {65534, 0, 65535},
		{7, 32774, 8}, {7, 32775, 7}, {7, 32776, 7}, {32775, 7, 32775}, {0, 32768, 0}, {32768, 0, 32768}, {0, 32767, 1}, {32767, 32768, 32768}, {32768, 65535, 32769}, // to half the way round
	} {
		if got := Own(c.own, c.asked); got != c.want {
			t.Errorf("Own(%d, %d) = %d, want %d", c.own, c.asked, got, c.want)
		}
	}
}

func TestOwnOfAllSteps(t *testing.T) { // P18.5
	for _, own := range []int{0, 1, 7, 255, 256, 32767, 32768, 65534, 65535} {
		for steps := range 65536 {
			want := own
			if 1 <= steps && steps <= 32767 {
				want = (own + 1) % 65536
			}
			if got := Own(uint16(own), uint16((own+steps)%65536)); int(got) != want {
				t.Fatalf("Own(%d, %d behind) = %d, want %d", own, steps, got, want)
			}
		}
	}
}
