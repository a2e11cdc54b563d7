package timer

import (
	"cmp"
	"maps"
	"math"
	"math/big"
	"math/rand"
	"slices"
	"strconv"
	"testing"

	"culvert/api"
)

// due is short for what a queue tells.
func due(name string, at int) api.Due {
	return api.Due{Name: name, At: at}
}

// queueOf is a queue with these timers, set in this order.
func queueOf(t *testing.T, l ...api.Due) *Queue {
	t.Helper()
	q := New()
	for _, d := range l {
		if e := q.Set(d.Name, d.At); e != api.OK {
			t.Fatalf("Set(%q, %d) = %v", d.Name, d.At, e)
		}
	}
	return q
}

// full is a queue with MaxTimers timers: "0" at 0, "1" at 1 and so on.
func full(t *testing.T) *Queue {
	t.Helper()
	q := New()
	for i := range api.MaxTimers {
		if e := q.Set(strconv.Itoa(i), i); e != api.OK {
			t.Fatalf("the timer at place %d: %v", i, e)
		}
	}
	return q
}

// inOrder is what a queue with these times must list: reckoned by a sort of its own.
func inOrder(times map[string]int) []api.Due {
	var l []api.Due
	for name, at := range times {
		l = append(l, due(name, at))
	}
	slices.SortFunc(l, func(a, b api.Due) int {
		return cmp.Or(cmp.Compare(a.At, b.At), slices.Compare([]byte(a.Name), []byte(b.Name)))
	})
	return l
}

// holds fails unless q has just these timers, by every call that asks, and by what a copy of it pops.
func holds(t *testing.T, q *Queue, want ...api.Due) {
	t.Helper()
	if got := q.List(); !slices.Equal(got, want) {
		t.Fatalf("List() = %v, want %v", got, want)
	}
	if got := q.Len(); got != len(want) {
		t.Fatalf("Len() = %d, want %d", got, len(want))
	}
	for _, d := range want {
		if at, ok := q.At(d.Name); at != d.At || !ok {
			t.Fatalf("At(%q) = %d, %v, want %d", d.Name, at, ok, d.At)
		}
	}
	first := api.Due{}
	if len(want) > 0 {
		first = want[0]
	}
	if got, ok := q.Next(); got != first || ok != (len(want) > 0) {
		t.Fatalf("Next() = %v, %v, want %v", got, ok, first)
	}
	if got := popAll(q.Copy(), math.MaxInt); !slices.Equal(got, want) {
		t.Fatalf("popped %v, want %v", got, want)
	}
}

// popAll pops till there is none that is due; a Pop that leaves what it tells gives one too many, and no endless round.
func popAll(q *Queue, now int) []api.Due {
	var l []api.Due
	for range q.Len() + 1 {
		d, ok := q.Pop(now)
		if !ok {
			break
		}
		l = append(l, d)
	}
	return l
}

// notThere fails if q knows one of these names.
func notThere(t *testing.T, q *Queue, names ...string) {
	t.Helper()
	for _, name := range names {
		if at, ok := q.At(name); at != 0 || ok {
			t.Fatalf("At(%q) = %d, %v, want 0, false", name, at, ok)
		}
	}
}

func TestANewQueueHasNoTimers(t *testing.T) { // P4.1
	q := New()
	if q == nil {
		t.Fatal("New() is nil")
	}
	holds(t, q)
	notThere(t, q, "", "a")
}

func TestTwoNewQueuesAreApart(t *testing.T) { // P4.1
	a, b := New(), New()
	a.Set("a", 1)
	holds(t, b)
	b.Set("b", 2)
	holds(t, a, due("a", 1))
	holds(t, b, due("b", 2))
}

func TestSetAddsATimer(t *testing.T) { // P4.2
	q := queueOf(t, due("hello", 20), due("update", 30), due("ack", 10))
	holds(t, q, due("ack", 10), due("hello", 20), due("update", 30))
}

func TestSetAgainForgetsTheOtherTime(t *testing.T) { // P4.2
	for _, c := range []struct {
		name string
		at   int
		want []api.Due
	}{
		{"b", 5, []api.Due{due("b", 5), due("a", 10), due("c", 30)}},
		{"b", 10, []api.Due{due("a", 10), due("b", 10), due("c", 30)}},
		{"b", 20, []api.Due{due("a", 10), due("b", 20), due("c", 30)}},
		{"b", 40, []api.Due{due("a", 10), due("c", 30), due("b", 40)}},
		{"a", -1, []api.Due{due("a", -1), due("b", 20), due("c", 30)}},
		{"a", 25, []api.Due{due("b", 20), due("a", 25), due("c", 30)}},
		{"c", 30, []api.Due{due("a", 10), due("b", 20), due("c", 30)}},
		{"c", 0, []api.Due{due("c", 0), due("a", 10), due("b", 20)}},
	} {
		q := queueOf(t, due("a", 10), due("b", 20), due("c", 30))
		if e := q.Set(c.name, c.at); e != api.OK {
			t.Fatalf("Set(%q, %d) = %v", c.name, c.at, e)
		}
		holds(t, q, c.want...)
	}
}

func TestSetTakesAnyNameAndTime(t *testing.T) { // P4.2
	names := []string{"", "\x00", "\x00\x00", " ", "A", "Z", "a", "a\x00", "a\n", "aa", "z", "\x7f", "\x80", "é", "\xff", "\xff\xfe\xff"}
	slices.Sort(names)
	times := []int{math.MinInt, math.MinInt + 1, -1, 0, 1, math.MaxInt - 1, math.MaxInt}
	q := New()
	var want []api.Due
	for i, at := range times {
		for _, name := range names {
			own := strconv.Itoa(i) + name
			want = append(want, due(own, at))
		}
	}
	for _, k := range rand.New(rand.NewSource(4)).Perm(len(want)) {
		if e := q.Set(want[k].Name, want[k].At); e != api.OK {
			t.Fatalf("Set(%q, %d) = %v", want[k].Name, want[k].At, e)
		}
	}
	holds(t, q, want...)
	for _, name := range names {
		for _, at := range times {
			q := queueOf(t, due(name, at))
			holds(t, q, due(name, at))
			if n := q.Cancel(name); n != 1 {
				t.Fatalf("Cancel(%q) = %d", name, n)
			}
			holds(t, q)
		}
	}
}

func TestMaxTimersAndOneMore(t *testing.T) { // P4.2
	q := full(t)
	before := q.List()
	if len(before) != 4096 || q.Len() != 4096 {
		t.Fatalf("%d timers, Len %d", len(before), q.Len())
	}
	for _, name := range []string{"", "more", "-1", "4096"} {
		for _, at := range []int{math.MinInt, -1, 0, 5000, math.MaxInt} {
			if e := q.Set(name, at); e != api.ErrMany {
				t.Fatalf("Set(%q, %d) = %v, want ErrMany", name, at, e)
			}
			notThere(t, q, name)
		}
	}
	holds(t, q, before...)
}

func TestAFullQueueSetsItsOwnAgain(t *testing.T) { // P4.2
	q := full(t)
	times := map[string]int{}
	for i := range api.MaxTimers {
		times[strconv.Itoa(i)] = i
	}
	for name, at := range map[string]int{"7": 7, "100": -3, "200": 9999, "0": 4095, "4095": math.MinInt} {
		if e := q.Set(name, at); e != api.OK {
			t.Fatalf("Set(%q, %d) = %v", name, at, e)
		}
		times[name] = at
	}
	holds(t, q, inOrder(times)...)
}

func TestAFullQueueHasRoomAgain(t *testing.T) { // P4.2
	q := full(t)
	if n := q.Cancel("17"); n != 1 {
		t.Fatalf("Cancel = %d", n)
	}
	if e := q.Set("one", 1); e != api.OK {
		t.Fatalf("behind Cancel: %v", e)
	}
	if e := q.Set("two", 1); e != api.ErrMany {
		t.Fatalf("full again: %v", e)
	}
	if d, ok := q.Pop(0); d != due("0", 0) || !ok {
		t.Fatalf("Pop(0) = %v, %v", d, ok)
	}
	if e := q.Set("two", 1); e != api.OK {
		t.Fatalf("behind Pop: %v", e)
	}
	if e := q.Set("three", 1); e != api.ErrMany {
		t.Fatalf("full once more: %v", e)
	}
}

func TestCancelCountsWhatWasThere(t *testing.T) { // P4.2
	all := []api.Due{due("a", 1), due("b", 2), due("c", 3), due("d", 4)}
	for _, c := range []struct {
		names []string
		want  int
		left  string
	}{
		{nil, 0, "abcd"},
		{[]string{}, 0, "abcd"},
		{[]string{"x"}, 0, "abcd"},
		{[]string{""}, 0, "abcd"},
		{[]string{"A", "aa", "a\x00"}, 0, "abcd"},
		{[]string{"a"}, 1, "bcd"},
		{[]string{"d"}, 1, "abc"},
		{[]string{"b", "b"}, 1, "acd"},
		{[]string{"b", "x", "b", "c", "x", "c"}, 2, "ad"},
		{[]string{"d", "c", "b", "a"}, 4, ""},
		{[]string{"a", "b", "c", "d", "a", "b"}, 4, ""},
	} {
		q := queueOf(t, all...)
		given := slices.Clone(c.names)
		if n := q.Cancel(c.names...); n != c.want {
			t.Fatalf("Cancel(%q) = %d, want %d", c.names, n, c.want)
		}
		if !slices.Equal(given, c.names) {
			t.Fatalf("Cancel changed %q to %q", given, c.names)
		}
		var left []api.Due
		for _, d := range all {
			if slices.Contains([]byte(c.left), d.Name[0]) {
				left = append(left, d)
			}
		}
		holds(t, q, left...)
		notThere(t, q, c.names...)
		if n := q.Cancel(c.names...); n != 0 {
			t.Fatalf("Cancel(%q) again = %d", c.names, n)
		}
	}
}

func TestCancelOfAnEmptyQueue(t *testing.T) { // P4.2
	q := New()
	if n := q.Cancel() + q.Cancel("") + q.Cancel("a", "a"); n != 0 {
		t.Fatalf("%d were there", n)
	}
	holds(t, q)
}

func TestATimerThatWasCancelledIsSetAnew(t *testing.T) { // P4.2
	q := queueOf(t, due("a", 1), due("b", 2))
	q.Cancel("a")
	q.Set("a", 3)
	holds(t, q, due("b", 2), due("a", 3))
}

func TestCancelOfAllOfAFullQueue(t *testing.T) { // P4.2
	q := full(t)
	var names []string
	for _, k := range rand.New(rand.NewSource(2)).Perm(api.MaxTimers) {
		names = append(names, strconv.Itoa(k))
	}
	if n := q.Cancel(names...); n != api.MaxTimers {
		t.Fatalf("Cancel = %d", n)
	}
	holds(t, q)
}

func TestAtOfNamesThatAreNotThere(t *testing.T) { // P4.3
	q := queueOf(t, due("a", 5), due("zero", 0))
	notThere(t, q, "", "b", "A", "a ", "a\x00", "zer")
	if at, ok := q.At("zero"); at != 0 || !ok {
		t.Fatalf("At of a timer at 0: %d, %v", at, ok)
	}
	if at, ok := q.At("a"); at != 5 || !ok {
		t.Fatalf("At(a) = %d, %v", at, ok)
	}
	holds(t, q, due("zero", 0), due("a", 5))
}

func TestAtOneTimeTheNamesDecide(t *testing.T) { // P4.3
	names := []string{"", "\x00", "10", "2", "A", "Z", "a", "aa", "b", "\x7f", "\xc3\xa9", "\xff"} // by their bytes
	for seed := range int64(20) {
		q := New()
		for _, k := range rand.New(rand.NewSource(seed)).Perm(len(names)) {
			q.Set(names[k], 7)
		}
		for i := range names {
			if d, ok := q.Next(); d != due(names[i], 7) || !ok {
				t.Fatalf("Next() = %v, %v, want %q", d, ok, names[i])
			}
			q.Pop(7)
		}
	}
}

func TestNextLeavesTheTimer(t *testing.T) { // P4.3
	q := queueOf(t, due("a", 9), due("b", 3))
	for range 3 {
		if d, ok := q.Next(); d != due("b", 3) || !ok {
			t.Fatalf("Next() = %v, %v", d, ok)
		}
	}
	holds(t, q, due("b", 3), due("a", 9))
}

func TestAnEmptyQueueTellsNothing(t *testing.T) { // P4.3, P4.4
	emptied := queueOf(t, due("a", 1), due("b", 2))
	emptied.Pop(9)
	emptied.Cancel("b")
	for _, q := range []*Queue{New(), emptied, New().Copy()} {
		if d, ok := q.Next(); d != (api.Due{}) || ok {
			t.Fatalf("Next() = %v, %v", d, ok)
		}
		if d, ok := q.Pop(math.MaxInt); d != (api.Due{}) || ok {
			t.Fatalf("Pop() = %v, %v", d, ok)
		}
		if l := q.List(); len(l) != 0 || q.Len() != 0 {
			t.Fatalf("List() = %v, Len() = %d", l, q.Len())
		}
	}
}

func TestListIsNewEachTime(t *testing.T) { // P4.3
	q := queueOf(t, due("a", 1), due("b", 2), due("c", 3))
	first, second := q.List(), q.List()
	for i := range first {
		first[i] = due("x", -9)
	}
	_ = append(first[:0:cap(first)], due("y", 7))
	want := []api.Due{due("a", 1), due("b", 2), due("c", 3)}
	if !slices.Equal(second, want) {
		t.Fatalf("another answer changed: %v", second)
	}
	holds(t, q, want...)
	q.Set("a", 50)
	q.Cancel("b")
	q.Pop(99)
	if !slices.Equal(second, want) {
		t.Fatalf("an answer changed with its queue: %v", second)
	}
}

func TestACopyIsApart(t *testing.T) { // P4.3
	begin := []api.Due{due("a", 1), due("b", 2), due("c", 3), due("d", 4), due("e", 5)}
	change := func(q *Queue) []api.Due {
		q.Set("a", 10)
		q.Set("e", -5)
		q.Set("new", 0)
		q.Cancel("b")
		q.Pop(0)
		return []api.Due{due("new", 0), due("c", 3), due("d", 4), due("a", 10)}
	}
	q := queueOf(t, begin...)
	c := q.Copy()
	holds(t, c, begin...)
	changed := change(c)
	holds(t, c, changed...)
	holds(t, q, begin...)

	c = q.Copy()
	changed = change(q)
	holds(t, q, changed...)
	holds(t, c, begin...)
	if n := q.Cancel("a", "c", "d", "new"); n != 4 {
		t.Fatalf("Cancel = %d", n)
	}
	holds(t, c, begin...)
}

func TestACopyOfAFullQueueIsFull(t *testing.T) { // P4.3
	q := full(t)
	c := q.Copy()
	if e := c.Set("more", 1); e != api.ErrMany {
		t.Fatalf("Set = %v", e)
	}
	q.Cancel("1")
	if e := c.Set("more", 1); e != api.ErrMany {
		t.Fatalf("Set = %v", e)
	}
	if e := q.Set("more", 1); e != api.OK {
		t.Fatalf("Set = %v", e)
	}
	notThere(t, c, "more")
}

func TestPopAheadOfAtAndBehindATime(t *testing.T) { // P4.4
	for _, at := range []int{math.MinInt, math.MinInt + 1, -1, 0, 1, 5000, math.MaxInt - 1, math.MaxInt} {
		q := queueOf(t, due("a", at))
		if at > math.MinInt {
			for _, now := range []int{math.MinInt, at - 1} {
				if d, ok := q.Pop(now); d != (api.Due{}) || ok {
					t.Fatalf("a timer at %d: Pop(%d) = %v, %v", at, now, d, ok)
				}
				holds(t, q, due("a", at))
			}
		}
		for _, now := range []int{at, max(at, at+1), math.MaxInt} {
			q := q.Copy()
			if d, ok := q.Pop(now); d != due("a", at) || !ok {
				t.Fatalf("a timer at %d: Pop(%d) = %v, %v", at, now, d, ok)
			}
			holds(t, q)
			notThere(t, q, "a")
		}
	}
}

func TestPopTakesOneAtATime(t *testing.T) { // P4.4
	q := queueOf(t, due("b", 5), due("a", 5), due("c", 3))
	for _, c := range []struct {
		now  int
		want api.Due
		ok   bool
	}{
		{2, api.Due{}, false}, {4, due("c", 3), true}, {4, api.Due{}, false}, {5, due("a", 5), true}, {5, due("b", 5), true}, {5, api.Due{}, false},
	} {
		if d, ok := q.Pop(c.now); d != c.want || ok != c.ok {
			t.Fatalf("Pop(%d) = %v, %v, want %v, %v", c.now, d, ok, c.want, c.ok)
		}
	}
}

func TestATimerThatWasPoppedIsSetAnew(t *testing.T) { // P4.4
	q := queueOf(t, due("a", 1), due("b", 2))
	q.Pop(1)
	if n := q.Cancel("a"); n != 0 {
		t.Fatalf("Cancel = %d", n)
	}
	q.Set("a", 4)
	holds(t, q, due("b", 2), due("a", 4))
}

func TestANilQueue(t *testing.T) { // P4.4
	var q *Queue
	if e := q.Set("a", 1); e != api.ErrNone {
		t.Errorf("Set = %v", e)
	}
	if n := q.Cancel() + q.Cancel("a", "b"); n != 0 {
		t.Errorf("Cancel = %d", n)
	}
	if at, ok := q.At("a"); at != 0 || ok {
		t.Errorf("At = %d, %v", at, ok)
	}
	if d, ok := q.Next(); d != (api.Due{}) || ok {
		t.Errorf("Next = %v, %v", d, ok)
	}
	if d, ok := q.Pop(math.MaxInt); d != (api.Due{}) || ok {
		t.Errorf("Pop = %v, %v", d, ok)
	}
	if n := q.Len(); n != 0 {
		t.Errorf("Len = %d", n)
	}
	if l := q.List(); len(l) != 0 {
		t.Errorf("List = %v", l)
	}
	if c := q.Copy(); c != nil {
		t.Errorf("Copy = %v", c)
	}
}

func TestJitterAtTheEdges(t *testing.T) { // P4.5
	const least, greatest = math.MinInt, math.MaxInt
	for _, c := range []struct{ interval, draw, want int }{
		{1000, 7, 993}, {1000, 251, 1000}, {1000, 250, 750}, {1000, 252, 999}, {1000, -7, 993}, {1000, -250, 750}, {1000, -251, 1000}, {1000, 0, 1000},
		{0, 0, 0}, {0, 9, 0}, {0, greatest, 0}, {0, least, 0},
		{-1, 0, -1}, {-1, 9, -1}, {-8, 1, -8}, {-8, least, -8}, {least, 5, least}, {least, least, least}, {least, greatest, least},
		{1, 0, 1}, {1, 1, 1}, {1, -1, 1}, {1, greatest, 1}, {1, least, 1},
		{3, 0, 3}, {3, 1, 3}, {3, 2, 3}, {3, -1, 3}, {3, greatest, 3}, {3, least, 3},
		{4, 0, 4}, {4, 1, 3}, {4, 2, 4}, {4, 3, 3}, {4, -1, 3}, {4, -2, 4}, {4, greatest, 3}, {4, least, 4}, {4, least + 1, 3},
		{7, 1, 6}, {7, 2, 7}, {8, 2, 6}, {8, 3, 8}, {8, -1, 7}, {8, least, 8}, {23, least, 23}, {1000, least, 1000}, {1000, least + 1, 1000 - greatest%251},
		{greatest, 0, greatest}, {greatest, 1, greatest - 1}, {greatest, -1, greatest - 1}, {greatest, least, greatest},
		{greatest, greatest / 4, greatest - greatest/4}, {greatest, greatest/4 + 1, greatest}, {greatest, -(greatest/4 + 2), greatest - 1},
		{greatest, greatest, greatest - greatest%(greatest/4+1)}, {greatest, least + 1, greatest - greatest%(greatest/4+1)},
	} {
		if got := Jitter(c.interval, c.draw); got != c.want {
			t.Errorf("Jitter(%d, %d) = %d, want %d", c.interval, c.draw, got, c.want)
		}
	}
}

// jitterByHand reckons in numbers of any size, so that no sign and no wrap-round is in its way.
func jitterByHand(interval, draw int) int {
	if interval < 1 || draw == math.MinInt {
		return interval
	}
	parts := big.NewInt(int64(interval))
	parts.Div(parts, big.NewInt(4)).Add(parts, big.NewInt(1))
	less := new(big.Int).Abs(big.NewInt(int64(draw)))
	less.Mod(less, parts)
	return int(less.Sub(big.NewInt(int64(interval)), less).Int64())
}

func TestJitterOfManyDraws(t *testing.T) { // P4.5
	for interval := -5; interval <= 50; interval++ {
		for draw := -60; draw <= 60; draw++ {
			if got, want := Jitter(interval, draw), jitterByHand(interval, draw); got != want {
				t.Fatalf("Jitter(%d, %d) = %d, want %d", interval, draw, got, want)
			}
		}
	}
	r := rand.New(rand.NewSource(45))
	for range 20000 {
		interval, draw := int(r.Uint64())>>r.Intn(64), int(r.Uint64())>>r.Intn(64)
		got, want := Jitter(interval, draw), jitterByHand(interval, draw)
		if got != want {
			t.Fatalf("Jitter(%d, %d) = %d, want %d", interval, draw, got, want)
		}
		if interval > 0 && (got > interval || got < interval-interval/4) {
			t.Fatalf("Jitter(%d, %d) = %d: more than a quarter off", interval, draw, got)
		}
	}
}

// rises fails unless each is above the one ahead of it: by its time, at one time by its name.
func rises(t *testing.T, l []api.Due) {
	t.Helper()
	for i := 1; i < len(l); i++ {
		a, b := l[i-1], l[i]
		if a.At > b.At || a.At == b.At && a.Name >= b.Name {
			t.Fatalf("%v comes ahead of %v", a, b)
		}
	}
}

func TestPopTellsAllThatWasDueRising(t *testing.T) { // P4.6
	r := rand.New(rand.NewSource(46))
	for range 200 {
		q, times := New(), map[string]int{}
		for range r.Intn(300) {
			name, at := strconv.Itoa(r.Intn(200)), r.Intn(60)-30
			q.Set(name, at)
			times[name] = at
		}
		for now := -31; now <= 30; now += 1 + r.Intn(5) {
			wasDue := maps.Clone(times)
			maps.DeleteFunc(wasDue, func(_ string, at int) bool { return at > now })
			maps.DeleteFunc(times, func(_ string, at int) bool { return at <= now })
			got := popAll(q, now)
			rises(t, got)
			if want := inOrder(wasDue); !slices.Equal(got, want) {
				t.Fatalf("popped by %d: %v, want %v", now, got, want)
			}
			if want := inOrder(times); !slices.Equal(q.List(), want) {
				t.Fatalf("left behind %d: %v, want %v", now, q.List(), want)
			}
		}
	}
}

// step plays one call on q and on times, which stands for what q must hold, and compares what both answer.
func step(t *testing.T, r *rand.Rand, q *Queue, times map[string]int) {
	t.Helper()
	name, at := strconv.Itoa(r.Intn(40)), r.Intn(20)
	switch r.Intn(4) {
	case 0, 1:
		if e := q.Set(name, at); e != api.OK {
			t.Fatalf("Set = %v", e)
		}
		times[name] = at
	case 2:
		other := strconv.Itoa(r.Intn(40))
		before := len(times)
		delete(times, name)
		delete(times, other)
		if n := q.Cancel(name, other); n != before-len(times) {
			t.Fatalf("Cancel(%q, %q) = %d, want %d", name, other, n, before-len(times))
		}
	case 3:
		l := inOrder(times)
		d, ok := q.Pop(at)
		if isDue := len(l) > 0 && l[0].At <= at; ok != isDue || ok && d != l[0] || !ok && d != (api.Due{}) {
			t.Fatalf("Pop(%d) = %v, %v of %v", at, d, ok, l)
		}
		delete(times, d.Name)
	}
}

func TestAnyCallsInAnyOrder(t *testing.T) { // P4.2, P4.3, P4.4, P4.6
	for seed := range int64(60) {
		r := rand.New(rand.NewSource(seed))
		q, times := New(), map[string]int{}
		for range 200 {
			if r.Intn(15) == 0 {
				other, own := q, maps.Clone(times)
				q = q.Copy()
				step(t, r, other, own)
			}
			step(t, r, q, times)
			holds(t, q, inOrder(times)...)
		}
	}
}
