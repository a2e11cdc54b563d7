package pick

import (
	"slices"
	"testing"

	"culvert/api"
)

// may is a way that is feasible.
func may(metric uint16) api.Cand { return api.Cand{Metric: metric, Feasible: true} }

// barred is one that is not.
func barred(metric uint16) api.Cand { return api.Cand{Metric: metric} }

// taken is c, selected.
func taken(c api.Cand) api.Cand {
	c.Selected = true
	return c
}

// none is lists of which none is usable, and whether they are starved.
var none = []struct {
	l       []api.Cand
	starved bool
}{
	// None, and one.
	{nil, false}, {[]api.Cand{}, false}, {[]api.Cand{{}}, true},
	{[]api.Cand{barred(0)}, true}, {[]api.Cand{barred(100)}, true}, {[]api.Cand{barred(65534)}, true}, {[]api.Cand{barred(65535)}, false}, {[]api.Cand{may(65535)}, false},
	{[]api.Cand{taken(barred(0))}, true}, {[]api.Cand{taken(barred(65534))}, true}, {[]api.Cand{taken(barred(65535))}, false}, {[]api.Cand{taken(may(65535))}, false},
	// None feasible.
	{[]api.Cand{barred(5), barred(3), barred(4)}, true}, {[]api.Cand{taken(barred(5)), barred(3), taken(barred(4))}, true}, {[]api.Cand{barred(7), barred(7)}, true},
	// All at Infinity.
	{[]api.Cand{may(65535), may(65535)}, false}, {[]api.Cand{taken(may(65535)), may(65535), taken(may(65535))}, false}, {[]api.Cand{barred(65535), may(65535), taken(barred(65535))}, false},
	// Both mixed: one that is not feasible, wherever it stands, is enough.
	{[]api.Cand{may(65535), barred(3)}, true}, {[]api.Cand{barred(3), may(65535)}, true}, {[]api.Cand{may(65535), barred(65534), may(65535)}, true},
	{[]api.Cand{barred(65535), barred(0), barred(65535)}, true}, {[]api.Cand{taken(may(65535)), barred(9)}, true}, {[]api.Cand{may(65535), barred(65535), taken(barred(1))}, true},
}

func TestBest(t *testing.T) { // P17.1
	for _, c := range []struct {
		l    []api.Cand
		want int
	}{
		{[]api.Cand{may(0)}, 0}, {[]api.Cand{may(100)}, 0}, {[]api.Cand{may(65534)}, 0}, {[]api.Cand{taken(may(100))}, 0},
		{[]api.Cand{may(1), may(2), may(3)}, 0}, {[]api.Cand{may(2), may(1), may(3)}, 1}, {[]api.Cand{may(3), may(2), may(1)}, 2}, {[]api.Cand{may(65534), may(65533)}, 1}, {[]api.Cand{may(1), may(0)}, 1}, {[]api.Cand{may(0), may(1)}, 0},
		{[]api.Cand{may(255), may(256)}, 0}, {[]api.Cand{may(256), may(255)}, 1}, {[]api.Cand{may(32767), may(32768)}, 0}, {[]api.Cand{may(32768), may(32767)}, 1},
		// Of several with the least one the first.
		{[]api.Cand{may(5), may(5)}, 0}, {[]api.Cand{may(0), may(0), may(0)}, 0}, {[]api.Cand{may(6), may(5), may(7), may(5), may(5)}, 1}, {[]api.Cand{may(65534), may(65534)}, 0}, {[]api.Cand{may(65535), may(65534), may(65534)}, 1},
		// That one is selected is nothing to it.
		{[]api.Cand{taken(may(5)), may(4)}, 1}, {[]api.Cand{may(5), taken(may(5))}, 0}, {[]api.Cand{taken(may(5)), may(5)}, 0}, {[]api.Cand{may(4), taken(may(5))}, 0},
		// What is not usable is passed over.
		{[]api.Cand{barred(0), may(9)}, 1}, {[]api.Cand{may(9), barred(0)}, 0}, {[]api.Cand{barred(9), may(9), barred(9)}, 1}, {[]api.Cand{taken(barred(0)), may(65534)}, 1},
		{[]api.Cand{may(65535), may(65534)}, 1}, {[]api.Cand{may(65534), may(65535)}, 0}, {[]api.Cand{barred(1), may(65535), taken(barred(2)), may(8), may(7), may(65535), barred(0)}, 4},
	} {
		if k, ok := Best(c.l...); k != c.want || !ok {
			t.Errorf("Best(%v) = %d, %v, want %d", c.l, k, ok, c.want)
		}
	}
}

func TestBestOfNoneUsable(t *testing.T) { // P17.1
	for _, c := range none {
		if k, ok := Best(c.l...); k != 0 || ok {
			t.Errorf("Best(%v) = %d, %v", c.l, k, ok)
		}
	}
}

// margins that stand for all.
var margins = []uint16{0, 1, 9, 10, 16, 32, 255, 256, 32767, 32768, 65533, 65534, 65535}

func TestPick(t *testing.T) { // P17.2
	for _, c := range []struct {
		margin uint16
		l      []api.Cand
		want   int
	}{
		{0, []api.Cand{may(100)}, 0}, {0, []api.Cand{taken(may(100))}, 0}, {65535, []api.Cand{taken(may(65534))}, 0},
		// At just what Best's and margin are, and one above.
		{0, []api.Cand{may(100), taken(may(100))}, 1}, {0, []api.Cand{may(100), taken(may(101))}, 0}, {0, []api.Cand{may(0), taken(may(0))}, 1}, {0, []api.Cand{may(0), taken(may(1))}, 0},
		{1, []api.Cand{may(100), taken(may(101))}, 1}, {1, []api.Cand{may(100), taken(may(102))}, 0}, {10, []api.Cand{taken(may(200)), may(190)}, 0}, {9, []api.Cand{taken(may(200)), may(190)}, 1},
		{32, []api.Cand{may(96), taken(may(128))}, 1}, {32, []api.Cand{may(96), taken(may(129))}, 0}, {65533, []api.Cand{may(0), taken(may(65533))}, 1}, {65533, []api.Cand{may(0), taken(may(65534))}, 0}, {65534, []api.Cand{may(0), taken(may(65534))}, 1},
		{1, []api.Cand{may(65533), taken(may(65534))}, 1}, {0, []api.Cand{may(65533), taken(may(65534))}, 0}, {0, []api.Cand{may(65534), taken(may(65534))}, 1},
		// Both together above what a metric is.
		{65535, []api.Cand{may(1), taken(may(65534))}, 1}, {65535, []api.Cand{may(65533), taken(may(65534))}, 1}, {65534, []api.Cand{may(2), taken(may(3))}, 1}, {2, []api.Cand{may(65534), taken(may(65534))}, 1}, {65535, []api.Cand{may(5), taken(may(5))}, 1}, {40000, []api.Cand{may(30000), taken(may(65000))}, 1},
		{32768, []api.Cand{may(32768), taken(may(40000))}, 1}, {32767, []api.Cand{may(32768), taken(may(65534))}, 1}, {32766, []api.Cand{may(32768), taken(may(65534))}, 1}, {32765, []api.Cand{may(32768), taken(may(65534))}, 0},
		// Of several that are selected the first usable one alone counts.
		{10, []api.Cand{may(5), taken(may(9)), taken(may(7))}, 1}, {10, []api.Cand{taken(may(9)), may(5), taken(may(5))}, 0}, {3, []api.Cand{taken(may(9)), may(5), taken(may(6))}, 1}, {3, []api.Cand{taken(may(9)), taken(may(6)), may(5)}, 2}, {0, []api.Cand{taken(may(5)), taken(may(5))}, 0},
		{3, []api.Cand{taken(barred(6)), taken(may(9)), taken(may(6)), may(5)}, 3}, {4, []api.Cand{taken(barred(6)), taken(may(9)), taken(may(6)), may(5)}, 1},
		{65535, []api.Cand{taken(may(65535)), taken(barred(0)), taken(may(8)), taken(may(7)), may(6)}, 2},
		// One that is selected and not usable is as good as none; those that are not usable do not count for the best either.
		{65535, []api.Cand{taken(barred(5)), may(9)}, 1}, {65535, []api.Cand{may(9), taken(barred(5))}, 0}, {65535, []api.Cand{taken(may(65535)), may(9)}, 1}, {65535, []api.Cand{may(65534), taken(may(65535))}, 0}, {65535, []api.Cand{taken(barred(65535)), may(0), may(0)}, 1},
		{0, []api.Cand{barred(0), taken(may(9))}, 1}, {0, []api.Cand{barred(0), taken(may(9)), may(8)}, 2}, {1, []api.Cand{barred(0), may(8), taken(may(9))}, 2}, {0, []api.Cand{taken(barred(0)), taken(may(9)), may(65535)}, 1},
		// None selected: the best, the first of several.
		{0, []api.Cand{may(5), may(4), may(4)}, 1}, {65535, []api.Cand{may(5), may(4), may(4)}, 1}, {32, []api.Cand{barred(1), may(65535), may(65534)}, 2}, {32, []api.Cand{may(96), may(95)}, 1},
		// The one that stays need not be the first of those that cost the least.
		{0, []api.Cand{may(4), may(4), taken(may(4)), may(4)}, 2}, {65535, []api.Cand{may(4), may(4), may(4), taken(may(65534))}, 3},
	} {
		if k, ok := Pick(c.margin, c.l...); k != c.want || !ok {
			t.Errorf("Pick(%d, %v) = %d, %v, want %d", c.margin, c.l, k, ok, c.want)
		}
	}
}

func TestPickOfNoneUsable(t *testing.T) { // P17.2
	for _, c := range none {
		for _, margin := range margins {
			if k, ok := Pick(margin, c.l...); k != 0 || ok {
				t.Errorf("Pick(%d, %v) = %d, %v", margin, c.l, k, ok)
			}
		}
	}
}

// Of two ways of which the second is selected, all about the edge.
func TestPickAtTheMargin(t *testing.T) { // P17.2
	for _, margin := range margins {
		for _, best := range []int{0, 1, 2, 96, 255, 256, 32767, 32768, 65000, 65533, 65534} {
			for _, over := range []int{0, int(margin) - 1, int(margin), int(margin) + 1, int(margin) + 2, 65534 - best} {
				if over < 0 || best+over > 65534 {
					continue
				}
				want := 0
				if over <= int(margin) {
					want = 1
				}
				if k, ok := Pick(margin, may(uint16(best)), taken(may(uint16(best+over)))); k != want || !ok {
					t.Errorf("margin %d, %d and a selected %d: %d, %v", margin, best, best+over, k, ok)
				}
			}
		}
	}
}

func TestStarved(t *testing.T) { // P17.3
	for _, c := range none {
		if got := Starved(c.l...); got != c.starved {
			t.Errorf("Starved(%v) = %v", c.l, got)
		}
		for _, m := range []uint16{0, 100, 65534} { // one that is usable, ahead and behind, ends it
			if Starved(append([]api.Cand{may(m)}, c.l...)...) || Starved(append(slices.Clone(c.l), may(m))...) || Starved(append(slices.Clone(c.l), taken(may(m)))...) {
				t.Errorf("Starved of %v and a usable %d", c.l, m)
			}
		}
	}
	for _, l := range [][]api.Cand{
		{may(0)}, {may(65534)}, {taken(may(9))}, {barred(1), may(65534), barred(2)}, {may(9), barred(1)}, {barred(1), may(9)}, {may(65535), barred(3), may(9)}, {may(1), may(2)}, {taken(barred(1)), may(2)},
	} {
		if Starved(l...) {
			t.Errorf("Starved(%v)", l)
		}
	}
}

// again is l with the way at k as the only selected one.
func again(l []api.Cand, k int) []api.Cand {
	out := slices.Clone(l)
	for i := range out {
		out[i].Selected = i == k
	}
	return out
}

func TestWhatWasPickedStays(t *testing.T) { // P17.4
	for _, l := range [][]api.Cand{
		{may(5)}, {may(5), may(5)}, {may(9), may(5), may(5)}, {taken(may(9)), may(5)}, {may(5), taken(may(9))}, {taken(may(9)), taken(may(6)), may(5)}, {may(65535), may(65534), barred(0)}, {may(65534), taken(may(65534))}, {may(0), taken(may(65534)), may(0)},
		{taken(barred(5)), may(6), may(7)}, {taken(may(65535)), may(6), may(6)},
	} {
		for _, margin := range margins {
			k, _ := Pick(margin, l...)
			for range 3 {
				if n, ok := Pick(margin, again(l, k)...); n != k || !ok {
					t.Errorf("Pick(%d, %v) = %d, and then %d, %v", margin, l, k, n, ok)
				}
			}
			best, _ := Best(l...)
			if over := int(l[k].Metric) - int(l[best].Metric); over > int(margin) {
				t.Errorf("Pick(%d, %v) = %d: worse by %d", margin, l, k, over)
			}
		}
	}
}

// Two ways of which each in its turn is a little better: nothing is turned round, till one is better by more than the margin; and then it stays there.
func TestWhatWavers(t *testing.T) { // P17.4
	l := []api.Cand{may(100), may(110)}
	for _, c := range []struct {
		first, second uint16
		want          int
	}{
		{100, 110, 0}, {110, 100, 0}, {132, 100, 0}, {100, 132, 0}, {132, 101, 0}, {133, 100, 1}, {132, 100, 1}, {100, 100, 1}, {100, 132, 1}, {100, 133, 0}, {132, 100, 0}, {65535, 100, 1}, {100, 65535, 0}, {65534, 65534, 0},
	} {
		l[0].Metric, l[1].Metric = c.first, c.second
		k, ok := Pick(api.Margin, l...)
		if k != c.want || !ok {
			t.Errorf("of %v: %d, %v, want %d", l, k, ok, c.want)
		}
		l = again(l, k)
	}
}

func TestTheExample(t *testing.T) { // P17.2, P17.3
	l := []api.Cand{taken(may(200)), may(190)}
	if k, ok := Pick(16, l...); k != 0 || !ok {
		t.Errorf("with margin 16: %d, %v", k, ok)
	}
	if k, ok := Pick(5, l...); k != 1 || !ok {
		t.Errorf("with margin 5: %d, %v", k, ok)
	}
	if !Starved(barred(100)) {
		t.Error("of one that is not feasible: not starved")
	}
}

// Far more ways than a router has routes.
func TestOfVeryMany(t *testing.T) { // P17.1, P17.2, P17.3
	const many = 100000
	l := slices.Repeat([]api.Cand{taken(barred(0)), taken(may(65535))}, many/2)
	if k, ok := Best(l...); k != 0 || ok || !Starved(l...) {
		t.Errorf("of %d that are not usable: %d, %v", many, k, ok)
	}
	l = append(l, may(9), taken(may(10)), may(9))
	for margin, want := range map[uint16]int{0: many, 1: many + 1} {
		if k, ok := Pick(margin, l...); k != want || !ok || Starved(l...) {
			t.Errorf("of %d and three: %d, %v", many, k, ok)
		}
	}
	if k, ok := Best(l...); k != many || !ok {
		t.Errorf("of %d and three: %d, %v", many, k, ok)
	}
}

func TestNothingHandedInIsChanged(t *testing.T) { // rule 3
	all := []api.Cand{taken(barred(3)), may(9), taken(may(7)), may(7), may(65535), may(5), taken(may(1)), barred(0), {}}
	was := slices.Clone(all)
	for n := range len(all) + 1 {
		l := all[:n] // behind these lies spare room
		for _, margin := range margins {
			Pick(margin, l...)
		}
		Best(l...)
		Starved(l...)
		if !slices.Equal(all, was) {
			t.Fatalf("of the first %d: %v became %v", n, was, all)
		}
	}
}

// What is answered hangs on what is handed in alone, whatever came ahead of it; what was handed in may be another one afterwards.
func TestNothingIsKept(t *testing.T) { // rule 4
	l := []api.Cand{taken(may(9)), may(7), barred(5)}
	for range 3 {
		if k, ok := Pick(2, l...); k != 0 || !ok {
			t.Errorf("the selected one stays: %d, %v", k, ok)
		}
		if k, ok := Pick(2, l[1:]...); k != 0 || !ok {
			t.Errorf("of the others: %d, %v", k, ok)
		}
		l[0].Selected = false
		if k, ok := Pick(2, l...); k != 1 || !ok {
			t.Errorf("it is not selected any more: %d, %v", k, ok)
		}
		if k, ok := Pick(2); k != 0 || ok || !Starved(l[2]) || Starved() {
			t.Errorf("of none: %d, %v", k, ok)
		}
		l[0].Selected = true
		if k, ok := Best(l...); k != 1 || !ok || Starved(l...) {
			t.Errorf("the best: %d, %v", k, ok)
		}
	}
}
