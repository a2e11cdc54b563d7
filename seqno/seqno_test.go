package seqno

import (
	"math"
	"math/rand"
	"slices"
	"testing"

	"culvert/api"
)

// bases are seqnos from which the tests go once round: the ends, the middle, and some between.
var bases = []int{0, 1, 2, 5, 255, 256, 12345, 32766, 32767, 32768, 32769, 54321, 65533, 65534, 65535}

// at is the seqno k steps behind base: reckoned in ints, so that it does not lean on Plus.
func at(base, k int) uint16 {
	return uint16(((base+k)%65536 + 65536) % 65536)
}

func dist(seqno, metric uint16) api.Distance {
	return api.Distance{Seqno: seqno, Metric: metric}
}

func TestLessAtTheEdges(t *testing.T) { // P3.1
	for _, c := range []struct {
		a, b uint16
		want bool
	}{
		{0, 0, false}, {5, 5, false}, {32768, 32768, false}, {65535, 65535, false},
		{0, 1, true}, {1, 0, false}, {65535, 0, true}, {0, 65535, false}, {65534, 65535, true}, {65535, 65534, false},
		{0, 32767, true}, {32767, 0, false}, {0, 32768, false}, {32768, 0, false}, {0, 32769, false}, {32769, 0, true},
		{32767, 32768, true}, {32768, 32767, false}, {40000, 7231, true}, {40000, 7232, false}, {40000, 7233, false},
		{100, 200, true}, {200, 100, false}, {65000, 500, true}, {500, 65000, false},
	} {
		if got := Less(c.a, c.b); got != c.want {
			t.Errorf("Less(%d, %d) = %v", c.a, c.b, got)
		}
	}
}

func TestLessOnceRound(t *testing.T) { // P3.1
	for _, base := range bases {
		for k := range 65536 {
			want := 1 <= k && k <= 32767
			if got := Less(uint16(base), at(base, k)); got != want {
				t.Fatalf("Less(%d, %d), %d behind: %v", base, at(base, k), k, got)
			}
		}
	}
}

func TestPlusAtTheEdges(t *testing.T) { // P3.1
	for _, c := range []struct {
		a    uint16
		n    int
		want uint16
	}{
		{0, 0, 0}, {7, 0, 7}, {65535, 0, 65535},
		{0, 1, 1}, {65535, 1, 0}, {65535, 2, 1}, {65000, 1000, 464},
		{0, -1, 65535}, {1, -1, 0}, {0, -2, 65534}, {65535, -65535, 0}, {5, -10, 65531},
		{7, 32767, 32774}, {7, 32768, 32775}, {7, 65535, 6}, {7, 65536, 7}, {7, 65537, 8}, {7, 1000000, 16967},
		{7, -32768, 32775}, {7, -65535, 8}, {7, -65536, 7}, {7, -65537, 6}, {7, -1000000, 48583},
		{7, math.MaxInt, 6}, {0, math.MaxInt, 65535}, {1, math.MaxInt, 0},
		{7, math.MinInt, 7}, {0, math.MinInt, 0}, {65535, math.MinInt, 65535},
		{7, math.MaxInt - 6, 0}, {7, math.MinInt + 65535, 6},
	} {
		if got := Plus(c.a, c.n); got != c.want {
			t.Errorf("Plus(%d, %d) = %d, want %d", c.a, c.n, got, c.want)
		}
	}
}

func TestPlusGoesRound(t *testing.T) { // P3.1
	for _, base := range bases {
		for n := -140000; n <= 140000; n++ {
			if got := Plus(uint16(base), n); got != at(base, n%65536) {
				t.Fatalf("Plus(%d, %d) = %d", base, n, got)
			}
		}
	}
}

func TestSum(t *testing.T) { // P3.2
	many := slices.Repeat([]uint16{1}, 65534)
	for _, c := range []struct {
		l    []uint16
		want uint16
	}{
		{nil, 0}, {[]uint16{}, 0},
		{[]uint16{0}, 0}, {[]uint16{1}, 1}, {[]uint16{96}, 96}, {[]uint16{65534}, 65534}, {[]uint16{65535}, 65535},
		{[]uint16{0, 0, 0}, 0}, {[]uint16{96, 256, 1000}, 1352},
		{[]uint16{65000, 533}, 65533}, {[]uint16{65000, 534}, 65534}, {[]uint16{65000, 535}, 65535}, {[]uint16{65000, 536}, 65535}, {[]uint16{65000, 600}, 65535},
		{[]uint16{65534, 1}, 65535}, {[]uint16{65534, 2}, 65535}, {[]uint16{1, 65534}, 65535}, {[]uint16{65534, 65534}, 65535}, {[]uint16{32768, 32768}, 65535}, {[]uint16{32767, 32767}, 65534},
		{[]uint16{65535, 0}, 65535}, {[]uint16{0, 65535}, 65535}, {[]uint16{65535, 1}, 65535}, {[]uint16{1, 65535, 1}, 65535}, {[]uint16{10, 20, 65535}, 65535}, {[]uint16{65535, 65535}, 65535},
		{[]uint16{40000, 40000, 0, 5}, 65535}, {[]uint16{32768, 32768, 32768, 32768}, 65535},
		{many, 65534}, {append(slices.Clone(many), 1), 65535}, {append(slices.Clone(many), 1, 1), 65535}, {slices.Repeat([]uint16{1}, 65536), 65535},
		{slices.Repeat([]uint16{65535}, 65537), 65535}, {slices.Repeat([]uint16{65534}, 200000), 65535}, {slices.Repeat([]uint16{0}, 100000), 0},
	} {
		if got := Sum(c.l...); got != c.want {
			t.Errorf("Sum of %d metrics = %d, want %d", len(c.l), got, c.want)
		}
	}
}

func TestSumIsThatOfInts(t *testing.T) { // P3.2
	r := rand.New(rand.NewSource(32))
	for range 20000 {
		l := make([]uint16, r.Intn(12))
		want := 0
		for i := range l {
			l[i] = uint16(r.Intn(14000))
			want += int(l[i])
		}
		before := slices.Clone(l)
		if got := Sum(l...); int(got) != min(want, 65535) {
			t.Fatalf("Sum(%v) = %d", l, got)
		}
		if !slices.Equal(l, before) {
			t.Fatalf("what was handed in, %v, has become %v", before, l)
		}
	}
}

func TestBetter(t *testing.T) { // P3.3
	for _, c := range []struct {
		a, b api.Distance
		want bool
	}{
		{dist(5, 10), dist(5, 10), false}, {dist(5, 9), dist(5, 10), true}, {dist(5, 11), dist(5, 10), false},
		{dist(5, 0), dist(5, 0), false}, {dist(5, 0), dist(5, 1), true}, {dist(5, 65534), dist(5, 65535), true}, {dist(5, 65535), dist(5, 65535), false}, {dist(5, 65535), dist(5, 65534), false},
		{dist(6, 10), dist(5, 10), true}, {dist(6, 99), dist(5, 10), true}, {dist(6, 65535), dist(5, 0), true}, {dist(6, 9), dist(5, 10), true},
		{dist(4, 10), dist(5, 10), false}, {dist(4, 0), dist(5, 10), false}, {dist(4, 0), dist(5, 65535), false},
		{dist(0, 99), dist(65535, 10), true}, {dist(65535, 1), dist(0, 10), false},
		{dist(32767, 99), dist(0, 10), true}, {dist(32768, 1), dist(0, 10), false}, {dist(0, 1), dist(32768, 10), false}, {dist(32769, 1), dist(0, 10), false}, {dist(0, 99), dist(32769, 10), true},
	} {
		if got := Better(c.a, c.b); got != c.want {
			t.Errorf("Better(%v, %v) = %v", c.a, c.b, got)
		}
	}
}

func TestBetterOnceRound(t *testing.T) { // P3.3
	for _, base := range bases {
		for k := range 65536 {
			for _, m := range []uint16{99, 100, 101} {
				want := 1 <= k && k <= 32767 || k == 0 && m == 99
				if got := Better(dist(at(base, k), m), dist(uint16(base), 100)); got != want {
					t.Fatalf("{%d, %d} and {%d, 100}: %v", at(base, k), m, base, got)
				}
			}
		}
	}
}

func TestFeasible(t *testing.T) { // P3.4
	for _, c := range []struct {
		d, kept api.Distance
		want    bool
	}{
		{dist(5, 10), dist(5, 10), false}, {dist(5, 9), dist(5, 10), true}, {dist(5, 11), dist(5, 10), false},
		{dist(6, 99), dist(5, 10), true}, {dist(6, 65534), dist(5, 0), true}, {dist(4, 0), dist(5, 10), false}, {dist(4, 65534), dist(5, 65535), false},
		{dist(4, 65535), dist(5, 10), true}, {dist(5, 65535), dist(5, 10), true}, {dist(5, 65535), dist(5, 65535), true}, {dist(6, 65535), dist(5, 10), true}, {dist(32773, 65535), dist(5, 0), true},
		{dist(5, 65534), dist(5, 65535), true}, {dist(5, 65534), dist(5, 65534), false}, {dist(5, 0), dist(5, 0), false},
		{dist(0, 99), dist(65535, 10), true}, {dist(65535, 1), dist(0, 10), false}, {dist(32768, 1), dist(0, 10), false}, {dist(32767, 99), dist(0, 10), true},
	} {
		kept := c.kept
		if got := Feasible(c.d, &kept); got != c.want {
			t.Errorf("Feasible(%v, %v) = %v", c.d, c.kept, got)
		}
		if kept != c.kept {
			t.Errorf("what was handed in, %v, has become %v", c.kept, kept)
		}
		if !Feasible(c.d, nil) {
			t.Errorf("Feasible(%v, nil) = false", c.d)
		}
	}
}

func TestKeep(t *testing.T) { // P3.5
	for _, c := range []struct {
		kept, d api.Distance
		takes   bool
	}{
		{dist(5, 100), dist(5, 100), false}, {dist(5, 100), dist(5, 99), true}, {dist(5, 100), dist(5, 101), false}, {dist(5, 100), dist(5, 0), true},
		{dist(5, 100), dist(6, 900), true}, {dist(5, 100), dist(6, 1), true}, {dist(5, 100), dist(4, 1), false}, {dist(5, 100), dist(4, 900), false},
		{dist(65535, 100), dist(0, 900), true}, {dist(0, 100), dist(65535, 1), false}, {dist(0, 100), dist(32767, 900), true}, {dist(0, 100), dist(32768, 1), false},
		{dist(5, 65535), dist(5, 65534), true}, {dist(5, 65534), dist(6, 65534), true},
		{dist(5, 100), dist(5, 65535), false}, {dist(5, 100), dist(4, 65535), false}, {dist(5, 100), dist(6, 65535), true}, // nobody tells these: the words hold all the same
	} {
		kept, want := c.kept, c.kept
		if c.takes {
			want = c.d
		}
		if got := Keep(&kept, c.d); got != want {
			t.Errorf("Keep(%v, %v) = %v", c.kept, c.d, got)
		}
		if kept != c.kept {
			t.Errorf("what was handed in, %v, has become %v", c.kept, kept)
		}
		if got := Keep(nil, c.d); got != c.d {
			t.Errorf("Keep(nil, %v) = %v", c.d, got)
		}
	}
}

func TestSince(t *testing.T) { // P3.6
	for _, c := range []struct{ now, then, want uint32 }{
		{0, 0, 0}, {7, 7, 0}, {math.MaxUint32, math.MaxUint32, 0},
		{1, 0, 1}, {1000000, 1, 999999}, {math.MaxUint32, 0, math.MaxUint32}, {1 << 31, 0, 1 << 31},
		{0, math.MaxUint32, 1}, {1, math.MaxUint32, 2}, {4, math.MaxUint32 - 5, 10}, {0, 1 << 31, 1 << 31}, {0, 1, math.MaxUint32}, {5, 6, math.MaxUint32}, {65535, 65536, math.MaxUint32},
	} {
		if got := Since(c.now, c.then); got != c.want {
			t.Errorf("Since(%d, %d) = %d, want %d", c.now, c.then, got, c.want)
		}
	}
	r := rand.New(rand.NewSource(36))
	for range 20000 {
		now, then := r.Uint32(), r.Uint32()
		want := (int64(now) - int64(then) + 1<<32) % (1 << 32)
		if got := Since(now, then); int64(got) != want {
			t.Fatalf("Since(%d, %d) = %d, want %d", now, then, got, want)
		}
	}
}

func TestMeets(t *testing.T) { // P3.7
	for _, c := range []struct {
		d     api.Distance
		seqno uint16
		want  bool
	}{
		{dist(5, 100), 5, true}, {dist(5, 100), 4, true}, {dist(5, 100), 6, false},
		{dist(5, 0), 5, true}, {dist(5, 65534), 5, true}, {dist(5, 65534), 4, true}, {dist(5, 65534), 6, false},
		{dist(5, 65535), 5, false}, {dist(5, 65535), 4, false}, {dist(5, 65535), 6, false},
		{dist(0, 100), 65535, true}, {dist(65535, 100), 0, false}, {dist(65535, 100), 65535, true}, {dist(0, 100), 0, true},
	} {
		if got := Meets(c.d, c.seqno); got != c.want {
			t.Errorf("Meets(%v, %d) = %v", c.d, c.seqno, got)
		}
	}
}

func TestMeetsOnceRound(t *testing.T) { // P3.7
	for _, base := range bases {
		for k := range 65536 {
			if got := Meets(dist(at(base, k), 100), uint16(base)); got != (k <= 32767) {
				t.Fatalf("Meets({%d, 100}, %d) = %v", at(base, k), base, got)
			}
			if Meets(dist(at(base, k), 65535), uint16(base)) {
				t.Fatalf("Meets({%d, Infinity}, %d)", at(base, k), base)
			}
		}
	}
}

func TestLessOneWay(t *testing.T) { // P3.8
	for _, base := range bases {
		for k := range 65536 {
			a, b := uint16(base), at(base, k)
			want := k != 0 && k != 32768
			if got := Less(a, b) != Less(b, a); got != want {
				t.Fatalf("%d and %d: %v and %v", a, b, Less(a, b), Less(b, a))
			}
			if !want && Less(a, b) {
				t.Fatalf("Less(%d, %d)", a, b)
			}
		}
	}
}

// TestKeepNeverGoesBack tells the steps' distances at random, all round: none makes what is kept worse.
func TestKeepNeverGoesBack(t *testing.T) { // P3.9
	r := rand.New(rand.NewSource(39))
	kept := Keep(nil, dist(65530, 100))
	moved := 0
	for range 200000 {
		d := dist(Plus(kept.Seqno, r.Intn(65536)), uint16(r.Intn(65535)))
		if r.Intn(2) == 0 {
			d = dist(Plus(kept.Seqno, r.Intn(3)-1), uint16(r.Intn(200)))
		}
		next := Keep(&kept, d)
		if next != kept && !Better(next, kept) || Better(kept, next) || Better(d, next) {
			t.Fatalf("Keep(%v, %v) = %v", kept, d, next)
		}
		if next != kept {
			moved++
		}
		kept = next
	}
	if moved < 1000 {
		t.Fatal("only", moved, "were kept")
	}
}

// TestNotFeasibleStaysSo holds over seqnos that lie within half a round: beyond that an old one looks new again, which is what going round means.
func TestNotFeasibleStaysSo(t *testing.T) { // P3.9
	r := rand.New(rand.NewSource(40))
	for range 300 {
		base, reach := r.Intn(65536), []int{3, 100, 32768}[r.Intn(3)]
		some := func() api.Distance {
			return dist(at(base, r.Intn(reach)), []uint16{0, 1, 10, 11, 65534}[r.Intn(5)])
		}
		kept := some()
		var refused []api.Distance
		for range 40 {
			if d := some(); !Feasible(d, &kept) {
				refused = append(refused, d)
			}
			kept = Keep(&kept, some())
			for _, d := range refused {
				if Feasible(d, &kept) {
					t.Fatalf("%v is feasible again at %v", d, kept)
				}
			}
		}
	}
}
