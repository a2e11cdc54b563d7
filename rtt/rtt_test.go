package rtt

import (
	"math"
	"slices"
	"testing"

	"culvert/api"
)

const (
	most = 1<<31 - 1 // of both differences of a sample
	top  = 1<<32 - 1 // of a clock
)

// starts are times of a clock from which the tests go on: the ends, the middle, and some between.
var starts = []uint32{0, 1, 1000, 123456789, most - 1, most, most + 1, most + 2, 3000000000, top - 1, top}

// decays are all that the chapter names, and some between.
var decays = []int{1, 2, 42, 64, 127, 128, 129, 200, 254, 255, 256}

// times are what an old one and samples may be.
var times = []int{0, 1, 2, 3, 127, 128, 255, 256, 257, 1000, 70001, 1000000, most - 1, most, most + 1}

// fades is a way to smooth with that Decay.
func fades(decay int) api.Rtt {
	return api.Rtt{On: true, Min: 10, Max: 110, Cost: 50, Decay: decay}
}

// climbs is a way to cost from least to greatest.
func climbs(least, greatest, cost int) api.Rtt {
	return api.Rtt{On: true, Min: least, Max: greatest, Cost: cost, Decay: 42}
}

func TestSample(t *testing.T) { // P12.1
	for _, c := range []struct {
		origin, received, sent, now uint32
		want                        int
		ok                          bool
	}{
		{1000, 50, 80, 1100, 70, true}, {0, 0, 0, 0, 0, true}, {7, 9, 9, 7, 0, true}, {1000, 50, 50, 1100, 100, true}, {0, 0, 30, 70, 40, true},
		// The clocks of both have nothing to do with each other.
		{1000, 4000000000, 4000000030, 1100, 70, true}, {4000000000, 50, 80, 4000000100, 70, true}, {most, 0, 10, most + 20, 10, true},
		// Round at 2^32: of the one clock, of the other, of both.
		{top - 9, 5, 5, 10, 20, true}, {top, 0, 0, 0, 1, true}, {1000, top, 0, 1100, 99, true}, {1000, top - 9, 20, 1100, 70, true}, {top - 49, top - 9, 20, 50, 70, true}, {top, top, 0, 0, 0, true}, {top, top, 1, 0, 0, false},
		// The first at 2^31 - 1, and at 2^31.
		{0, 0, 0, most, most, true}, {0, 0, 0, most + 1, 0, false}, {0, 0, 1, most + 1, 0, false}, {0, 0, most, most + 1, 0, false}, {5, 9, 9, most + 5, most, true}, {5, 9, 9, most + 6, 0, false}, {most + 2, 3, 4, 0, most - 1, true}, {most + 2, 3, 4, 1, 0, false}, {most + 3, 3, 4, 1, most - 1, true}, {most + 1, 3, 4, 1, 0, false},
		// The second at 2^31 - 1, and at 2^31.
		{0, 0, most, most, 0, true}, {0, 0, most + 1, most, 0, false}, {0, 0, most + 1, most + 1, 0, false}, {0, 0, most + 1, most + 2, 0, false}, {0, 0, most, most - 1, 0, false}, {0, most + 3, 0, most, 1, true}, {0, most + 2, 0, most, 0, true}, {0, most + 2, 1, most, 0, false}, {0, most + 1, 0, most, 0, false},
		// Both above 2^31 - 1: what lies between them is no sample.
		{0, 0, most + 1, top, 0, false}, {0, 0, top, top, 0, false}, {1, 1, 0, 0, 0, false},
		// Times that run back.
		{1, 0, 0, 0, 0, false}, {1100, 50, 80, 1000, 0, false}, {1000, 80, 50, 1100, 0, false}, {1000, 1, 0, 1100, 0, false}, {1100, 80, 50, 1000, 0, false},
		// The second equal to the first, one less, one greater.
		{1000, 50, 150, 1100, 0, true}, {1000, 50, 149, 1100, 1, true}, {1000, 50, 151, 1100, 0, false}, {1000, 0, 200, 1100, 0, false}, {0, 0, 1, 0, 0, false}, {0, 0, 0, 1, 1, true}, {0, 0, 1, 1, 0, true},
	} {
		if got, ok := Sample(c.origin, c.received, c.sent, c.now); got != c.want || ok != c.ok {
			t.Errorf("Sample(%d, %d, %d, %d) = %d, %v", c.origin, c.received, c.sent, c.now, got, ok)
		}
	}
}

// Where the clocks stand makes no odds.
func TestSampleWhereverTheClocksStand(t *testing.T) { // P12.1
	for _, mine := range starts {
		for _, theirs := range starts {
			for _, away := range []uint32{0, 1, 70, most - 1, most, most + 1, top} {
				for _, waited := range []uint32{0, 1, 69, 70, 71, most - 1, most, most + 1, top} {
					want, is := int(away)-int(waited), away <= most && waited <= most && waited <= away
					if !is {
						want = 0
					}
					if got, ok := Sample(mine, theirs, theirs+waited, mine+away); got != want || ok != is {
						t.Fatalf("from %d and %d on, %d and %d: %d, %v", mine, theirs, away, waited, got, ok)
					}
				}
			}
		}
	}
}

func TestSmooth(t *testing.T) { // P12.2
	for _, c := range []struct {
		decay, old int
		samples    []int
		want       int
	}{
		// No sample.
		{64, 7, nil, 7}, {64, 0, nil, 0}, {64, -1, nil, -1}, {256, 7, nil, 7}, {1, most + 1, nil, most + 1}, {64, 7, []int{}, 7},
		// One.
		{64, 100, []int{200}, 125}, {64, 200, []int{100}, 175}, {128, 100, []int{200}, 150}, {1, 0, []int{256}, 1}, {1, 256, []int{0}, 255}, {255, 0, []int{256}, 255}, {255, 256, []int{0}, 1},
		{256, 100, []int{200}, 200}, {256, 200, []int{100}, 100}, {256, 0, []int{0}, 0}, {64, 100, []int{100}, 100}, {1, 100, []int{100}, 100}, {255, 100, []int{100}, 100},
		// Rounded down.
		{1, 0, []int{255}, 0}, {1, 0, []int{257}, 1}, {1, 0, []int{511}, 1}, {1, 0, []int{512}, 2}, {1, 1, []int{0}, 0}, {1, 2, []int{0}, 1}, {1, 100, []int{355}, 100}, {1, 100, []int{356}, 101}, {1, 100, []int{99}, 99},
		{128, 0, []int{1}, 0}, {128, 1, []int{0}, 0}, {128, 1, []int{2}, 1}, {128, 2, []int{1}, 1}, {128, 3, []int{4}, 3}, {128, 3, []int{5}, 4},
		{255, 0, []int{1}, 0}, {255, 1, []int{0}, 0}, {255, 0, []int{2}, 1}, {255, 1, []int{2}, 1}, {255, 257, []int{2}, 2}, {255, 258, []int{2}, 3}, {64, 1, []int{4}, 1}, {64, 1, []int{5}, 2}, {42, 100, []int{200}, 116},
		// An old of none, of 0, of more.
		{64, -1, []int{200}, 200}, {1, -1, []int{200}, 200}, {256, -1, []int{200}, 200}, {64, -1, []int{0}, 0}, {64, -2, []int{200}, 200}, {64, math.MinInt, []int{200}, 200}, {64, 0, []int{200}, 50}, {64, 1, []int{200}, 50}, {64, 4, []int{200}, 53},
		// Several: each is put to what those ahead of it made.
		{64, 100, []int{200, 200}, 143}, {64, 100, []int{200, 100}, 118}, {64, 100, []int{100, 200}, 125}, {128, 0, []int{256, 256, 256}, 224}, {128, 0, []int{256, 0, 0}, 32}, {128, 0, []int{0, 0, 256}, 128},
		{64, -1, []int{100, 200}, 125}, {64, -1, []int{100, 200, 200}, 143}, {64, -1, []int{0, 200}, 50}, {1, -1, []int{1, 0, 256}, 1}, {256, 9, []int{5, 6, 7}, 7}, {256, -1, []int{5, 6, 7}, 7},
		// It is rounded behind each sample, not at the end.
		{128, 1, []int{2, 2}, 1}, {128, 0, []int{1, 1, 1, 1}, 0}, {1, 0, []int{255, 255}, 0}, {1, 3, []int{0, 0, 0, 0}, 0},
		// Up to 2^31.
		{1, most + 1, []int{most + 1}, most + 1}, {128, most + 1, []int{most + 1}, most + 1}, {255, most + 1, []int{most + 1}, most + 1}, {256, most + 1, []int{most + 1}, most + 1}, {256, 0, []int{most + 1}, most + 1}, {256, most + 1, []int{0}, 0},
		{1, 0, []int{most + 1}, 1 << 23}, {1, most + 1, []int{0}, 1<<31 - 1<<23}, {128, most + 1, []int{0}, 1 << 30}, {128, 0, []int{most + 1}, 1 << 30}, {255, 0, []int{most + 1}, 1<<31 - 1<<23}, {255, most + 1, []int{0}, 1 << 23},
		{1, 0, []int{most}, 1<<23 - 1}, {128, most, []int{most + 1}, most}, {1, most, []int{most + 1}, most}, {255, most, []int{most + 1}, most}, {256, most, []int{most + 1}, most + 1}, {1, -1, []int{most + 1, most + 1}, most + 1},
	} {
		if got := Smooth(fades(c.decay), c.old, c.samples...); got != c.want {
			t.Errorf("Smooth of Decay %d, old %d, %v: %d, want %d", c.decay, c.old, c.samples, got, c.want)
		}
	}
}

// Only Decay has a part in it.
func TestSmoothByDecayAlone(t *testing.T) { // P12.2
	for _, c := range []api.Rtt{{Decay: 64}, {On: true, Decay: 64}, {On: true, Min: 1000000, Max: 0, Cost: -5, Decay: 64}, {Min: 300, Max: 300, Cost: 70000, Decay: 64}} {
		if Smooth(c, 100, 200) != 125 || Smooth(c, -1, 200) != 200 || Smooth(c, 7) != 7 {
			t.Errorf("%v: %d, %d, %d", c, Smooth(c, 100, 200), Smooth(c, -1, 200), Smooth(c, 7))
		}
	}
}

// To hand them over together is to hand them over one behind the other.
func TestSmoothOneByOne(t *testing.T) { // P12.2
	for _, d := range decays {
		for _, first := range append([]int{-1}, times...) {
			old := first
			for i, s := range times {
				old = Smooth(fades(d), old, s)
				if got := Smooth(fades(d), first, times[:i+1]...); got != old {
					t.Fatalf("Decay %d, old %d, %v: %d, one by one %d", d, first, times[:i+1], got, old)
				}
			}
		}
	}
}

func TestCost(t *testing.T) { // P12.3
	for _, c := range []struct {
		r    api.Rtt
		t    int
		want uint16
	}{
		// Below Min, at it, one above, between, one below Max, at it, above.
		{climbs(10, 110, 50), 0, 0}, {climbs(10, 110, 50), 9, 0}, {climbs(10, 110, 50), 10, 0}, {climbs(10, 110, 50), 11, 0}, {climbs(10, 110, 50), 60, 25}, {climbs(10, 110, 50), 109, 49}, {climbs(10, 110, 50), 110, 50}, {climbs(10, 110, 50), 111, 50}, {climbs(10, 110, 50), 9999, 50},
		{climbs(10, 110, 200), 11, 2}, {climbs(10, 110, 200), 109, 198}, {climbs(10, 110, 100), 11, 1}, {climbs(10, 110, 100), 109, 99}, {climbs(10, 110, 100), 37, 27},
		// Rounded down.
		{climbs(10, 110, 50), 12, 1}, {climbs(10, 110, 50), 13, 1}, {climbs(10, 110, 50), 61, 25}, {climbs(10, 110, 50), 62, 26}, {climbs(0, 3, 2), 1, 0}, {climbs(0, 3, 2), 2, 1}, {climbs(0, 3, 10), 1, 3}, {climbs(0, 3, 10), 2, 6}, {climbs(0, 7, 1), 6, 0}, {climbs(0, 7, 1), 7, 1},
		// Min and Max one apart, and two.
		{climbs(10, 11, 50), 9, 0}, {climbs(10, 11, 50), 10, 0}, {climbs(10, 11, 50), 11, 50}, {climbs(10, 11, 50), 12, 50}, {climbs(10, 12, 51), 11, 25}, {climbs(0, 1, 65534), 0, 0}, {climbs(0, 1, 65534), 1, 65534}, {climbs(999999, 1000000, 7), 999999, 0}, {climbs(999999, 1000000, 7), 1000000, 7},
		// The greatest that a configuration has.
		{climbs(0, 1000000, 65534), 0, 0}, {climbs(0, 1000000, 65534), 1, 0}, {climbs(0, 1000000, 65534), 15, 0}, {climbs(0, 1000000, 65534), 16, 1}, {climbs(0, 1000000, 65534), 500000, 32767}, {climbs(0, 1000000, 65534), 999984, 65532}, {climbs(0, 1000000, 65534), 999985, 65533}, {climbs(0, 1000000, 65534), 999999, 65533}, {climbs(0, 1000000, 65534), 1000000, 65534},
		{climbs(0, 1000000, 1), 999999, 0}, {climbs(0, 1000000, 1), 1000000, 1}, {climbs(10000, 120000, 150), 65000, 75}, {climbs(10000, 120000, 150), 10734, 1}, {climbs(10000, 120000, 150), 10733, 0}, {climbs(10000, 120000, 150), 119999, 149},
		// Times that are no usual ones.
		{climbs(0, 1000000, 65534), -1, 0}, {climbs(10, 110, 50), -1, 0}, {climbs(10, 110, 50), math.MinInt, 0}, {climbs(10, 110, 50), most + 1, 50}, {climbs(10, 110, 50), 1<<32 + 60, 50}, {climbs(10, 110, 50), 1<<16 + 60, 50}, {climbs(10, 110, 50), math.MaxInt, 50},
	} {
		if got := Cost(c.r, c.t); got != c.want {
			t.Errorf("Cost(%v, %d) = %d, want %d", c.r, c.t, got, c.want)
		}
	}
}

func TestCostOfNotOn(t *testing.T) { // P12.3
	for _, c := range []api.Rtt{{}, {Min: 10, Max: 110, Cost: 50, Decay: 64}, {Max: 1, Cost: 65534, Decay: 256}, {Min: 110, Max: 10, Cost: 50}} {
		for _, at := range []int{math.MinInt, -1, 0, 1, 9, 10, 11, 60, 109, 110, 111, 1000000, math.MaxInt} {
			if got := Cost(c, at); got != 0 {
				t.Errorf("Cost(%v, %d) = %d", c, at, got)
			}
		}
	}
}

// How a time is smoothed has no part in what it costs.
func TestCostNotByDecay(t *testing.T) { // P12.3
	for _, d := range append([]int{math.MinInt, -1, 0, 257, math.MaxInt}, decays...) {
		if got := Cost(fades(d), 60); got != 25 {
			t.Errorf("Decay %d: %d", d, got)
		}
	}
}

func TestClock(t *testing.T) { // P12.4
	for _, c := range []struct {
		now  int
		want uint32
	}{
		{0, 0}, {1, 1000}, {2, 2000}, {1000, 1000000}, {5000000, 705032704}, {10000000, 1410065408},
		// The last time ahead of 2^32, and those behind it; likewise of more rounds.
		{4294967, 4294967000}, {4294968, 704}, {4294969, 1704}, {8589934, 4294966704}, {8589935, 408}, {2147483, 2147483000}, {2147484, 2147484000},
		// 1000 is 8 times 125: behind 2^29 milliseconds the clock is at 0 again.
		{1<<29 - 1, 4294966296}, {1 << 29, 0}, {1<<29 + 1, 1000}, {1<<31 - 1, 4294966296}, {1 << 31, 0}, {1<<31 + 1, 1000}, {1<<32 - 1, 4294966296}, {1 << 32, 0}, {1<<32 + 1, 1000}, {1<<32 + 5000000, 705032704},
		{1<<40 - 1, 4294966296}, {1 << 40, 0}, {1<<40 + 7, 7000}, {math.MaxInt, 4294966296}, {math.MaxInt - 1, 4294965296}, {math.MaxInt / 1000, 4294966488}, {math.MaxInt/1000 + 1, 192},
		// Below 0 the clock goes back from 0 on.
		{-1, 4294966296}, {-5, 4294962296}, {math.MinInt, 0}, {math.MinInt + 1, 1000},
	} {
		if got := Clock(c.now); got != c.want {
			t.Errorf("Clock(%d) = %d, want %d", c.now, got, c.want)
		}
	}
}

// A millisecond is a thousand microseconds, also where the clock goes round.
func TestClockGoesOn(t *testing.T) { // P12.4
	for _, from := range []int{0, 4294900, 8589900, 1<<29 - 500, 1<<32 - 500, 1<<40 - 500} {
		for now := from; now < from+1000; now++ {
			if got := Clock(now+1) - Clock(now); got != 1000 {
				t.Fatalf("from %d on: %d", now, got)
			}
		}
	}
}

func TestSampleOfClocks(t *testing.T) { // P12.1, P12.4
	for _, now := range []int{0, 4294960, 4294967, 8589934, 1<<32 - 4, 1 << 40} {
		for _, theirs := range []int{0, 4294966, 77} {
			if got, ok := Sample(Clock(now), Clock(theirs), Clock(theirs+3), Clock(now+8)); got != 5000 || !ok {
				t.Errorf("at %d and %d: %d, %v", now, theirs, got, ok)
			}
		}
	}
}

func TestSmoothLiesBetween(t *testing.T) { // P12.5
	for _, d := range decays {
		for _, old := range append([]int{-1}, times...) {
			for i := range times {
				for j := i + 1; j <= min(i+4, len(times)); j++ {
					l := times[i:j]
					least, greatest := slices.Min(l), slices.Max(l)
					if old >= 0 {
						least, greatest = min(least, old), max(greatest, old)
					}
					if got := Smooth(fades(d), old, l...); got < least || got > greatest {
						t.Fatalf("Decay %d, old %d, %v: %d", d, old, l, got)
					}
				}
			}
		}
	}
}

func TestCostGrows(t *testing.T) { // P12.5
	for _, c := range []api.Rtt{climbs(10, 110, 50), climbs(0, 1, 1), climbs(0, 1, 65534), climbs(0, 1000, 65534), climbs(7, 1000, 3), climbs(500, 1500, 999), climbs(0, 1000, 1001)} {
		was := uint16(0)
		for at := c.Min - 20; at < c.Max+20; at++ {
			got := Cost(c, at)
			if got < was || int(got) > c.Cost {
				t.Fatalf("%v: %d at %d, behind %d", c, got, at, was)
			}
			was = got
		}
		if int(was) != c.Cost {
			t.Errorf("%v: %d at the end", c, was)
		}
	}
}

// Of these nothing is said but that the calls end.
func TestWrongInputsEnd(t *testing.T) { // rule 1
	odd := []int{math.MinInt, math.MinInt + 1, math.MinInt32, -257, -256, -1, 0, 1, 255, 256, 257, 65535, 65536, 1 << 32, math.MaxInt - 1, math.MaxInt}
	for _, a := range odd {
		for _, b := range odd {
			for _, c := range odd {
				Smooth(api.Rtt{On: true, Decay: a}, b, c, a, c)
				for _, d := range odd {
					Cost(api.Rtt{On: true, Min: a, Max: b, Cost: c}, d)
				}
			}
		}
	}
}

func TestTheExample(t *testing.T) { // P12.1 to P12.3
	if got, ok := Sample(1000, 50, 80, 1100); got != 70 || !ok {
		t.Errorf("Sample: %d, %v", got, ok)
	}
	if got := Smooth(api.Rtt{On: true, Decay: 64}, 100, 200); got != 125 {
		t.Errorf("Smooth: %d", got)
	}
	if got := Cost(api.Rtt{On: true, Min: 10, Max: 110, Cost: 50}, 60); got != 25 {
		t.Errorf("Cost: %d", got)
	}
}

func TestNothingHandedInIsChanged(t *testing.T) { // rule 3
	for _, d := range decays {
		c := fades(d)
		l := []int{200, 0, 7, most + 1, 5, 6}
		was := slices.Clone(l)
		for _, old := range []int{-1, 0, 100} {
			Smooth(c, old, l[:3]...) // behind these lies spare room
			Smooth(c, old, l[:0]...)
			Smooth(c, old, l...)
			Cost(c, old)
		}
		if !slices.Equal(l, was) || c != fades(d) {
			t.Errorf("%v became %v, and %v %v", was, l, fades(d), c)
		}
	}
}

// What is answered hangs on what is handed in alone, whatever came ahead of it.
func TestNothingIsKept(t *testing.T) { // rule 4
	l := []int{100, 200}
	for range 3 {
		if Smooth(fades(64), -1, l...) != 125 || Smooth(fades(128), -1, l...) != 150 || Smooth(fades(64), 7) != 7 {
			t.Error("Smooth")
		}
		if Cost(fades(64), 60) != 25 || Cost(api.Rtt{}, 60) != 0 || Clock(5) != 5000 || Clock(0) != 0 {
			t.Error("Cost, Clock")
		}
		if got, ok := Sample(0, 0, 0, 9); got != 9 || !ok {
			t.Error("Sample")
		}
		if got, ok := Sample(9, 0, 0, 0); got != 0 || ok {
			t.Error("Sample that is none")
		}
	}
}
