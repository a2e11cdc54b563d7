package pick

import (
	"math/rand"
	"slices"
	"sort"
	"testing"

	"culvert/api"
)

// reading is what a second reading of the chapter makes of a list: the places of those that can be used, by rising metrics, and of those that only could if they were feasible.
type reading struct {
	usable []int
	others []int
}

func read(l []api.Cand) reading {
	var r reading
	for i, c := range l {
		switch {
		case int(c.Metric) >= 65535:
		case c.Feasible:
			r.usable = append(r.usable, i)
		default:
			r.others = append(r.others, i)
		}
	}
	sort.SliceStable(r.usable, func(i, j int) bool { return l[r.usable[i]].Metric < l[r.usable[j]].Metric })
	return r
}

func (r reading) best() (int, bool) {
	if len(r.usable) == 0 {
		return 0, false
	}
	return r.usable[0], true
}

// pick takes the selected one with the least place, if no usable one is farther below it than margin.
func (r reading) pick(margin int, l []api.Cand) (int, bool) {
	first := -1
	for _, i := range r.usable {
		if l[i].Selected && (first < 0 || i < first) {
			first = i
		}
	}
	for _, i := range r.usable {
		if first >= 0 && int(l[first].Metric)-int(l[i].Metric) > margin {
			first = -1
		}
	}
	if first >= 0 {
		return first, true
	}
	return r.best()
}

func (r reading) starved() bool {
	return len(r.usable) == 0 && len(r.others) > 0
}

// hold holds the package's answers against the second reading, and asks for P17.4.
func hold(t *testing.T, margin uint16, l []api.Cand) {
	t.Helper()
	r := read(l)
	want, there := r.best()
	if k, ok := Best(l...); k != want || ok != there { // P17.1
		t.Fatalf("Best(%v) = %d, %v, want %d, %v", l, k, ok, want, there)
	}
	if got := Starved(l...); got != r.starved() { // P17.3
		t.Fatalf("Starved(%v) = %v", l, got)
	}
	best := want
	want, there = r.pick(int(margin), l)
	k, ok := Pick(margin, l...)
	if k != want || ok != there { // P17.2
		t.Fatalf("Pick(%d, %v) = %d, %v, want %d, %v", margin, l, k, ok, want, there)
	}
	if !ok { // there is nothing to be steady about
		return
	}
	if n, still := Pick(margin, again(l, k)...); n != k || !still { // P17.4
		t.Fatalf("Pick(%d, %v) = %d, and then %d, %v", margin, l, k, n, still)
	}
	beside := slices.Clone(l) // the others stay selected
	beside[k].Selected = true
	if n, still := Pick(margin, beside...); n != k || !still { // P17.4
		t.Fatalf("Pick(%d, %v) = %d, and of %v then %d, %v", margin, l, k, beside, n, still)
	}
	if over := int(l[k].Metric) - int(l[best].Metric); over > int(margin) { // P17.4
		t.Fatalf("Pick(%d, %v) = %d: worse than the best by %d", margin, l, k, over)
	}
}

// sorts is all ways of these metrics.
func sorts(metrics ...uint16) []api.Cand {
	var out []api.Cand
	for _, m := range metrics {
		out = append(out, may(m), barred(m), taken(may(m)), taken(barred(m)))
	}
	return out
}

// Every list of up to three ways of few metrics.
func TestShortListsByHand(t *testing.T) { // P17.1, P17.2, P17.3, P17.4
	all := sorts(0, 1, 5, 65534, 65535)
	lists := [][]api.Cand{nil}
	for n := 0; n < len(lists); n++ {
		for _, margin := range []uint16{0, 1, 3, 4, 5, 65528, 65529, 65533, 65534, 65535} {
			hold(t, margin, lists[n])
		}
		for _, c := range all {
			if l := lists[n]; len(l) < 3 {
				lists = append(lists, append(l[:len(l):len(l)], c))
			}
		}
	}
}

// Longer ones, whose metrics lie close to one another, anywhere.
func TestLongListsByHand(t *testing.T) { // P17.1, P17.2, P17.3, P17.4
	r := rand.New(rand.NewSource(17))
	for range 100000 {
		low, span := r.Intn(65536), 1+r.Intn(40)
		if r.Intn(4) == 0 {
			low, span = 65535-r.Intn(10), 1+r.Intn(10)
		}
		feasible, selected := r.Intn(5), r.Intn(5)
		l := make([]api.Cand, r.Intn(9))
		for i := range l {
			l[i] = api.Cand{Metric: uint16(min(low+r.Intn(span), 65535)), Feasible: r.Intn(4) < feasible, Selected: r.Intn(4) < selected}
			if r.Intn(10) == 0 {
				l[i].Metric = uint16(r.Intn(65536))
			}
		}
		margin := uint16(r.Intn(span + 2))
		if r.Intn(10) == 0 {
			margin = uint16(r.Intn(65536))
		}
		hold(t, margin, l)
	}
}
