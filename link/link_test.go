package link

import (
	"math"
	"slices"
	"testing"

	"culvert/api"
)

// seqnos are ones from which the tests go on and back: the ends, the middle, and some between.
var seqnos = []uint16{0, 1, 5, 15, 16, 17, 12345, 32751, 32767, 32768, 32769, 65519, 65520, 65534, 65535}

// kinds that are neither Wired nor Wireless.
var noKinds = []int{math.MinInt, math.MinInt32, -1, 2, 3, 255, 256, 257, 65536, 65537, math.MaxInt}

// knows is a history of which something is known.
func knows(bits, next uint16) api.History {
	return api.History{Bits: bits, Next: next, Known: true}
}

// ofBits is histories with these bits.
func ofBits(l ...uint16) []api.History {
	var out []api.History
	for _, b := range l {
		out = append(out, knows(b, 7))
	}
	return out
}

func TestHearTheFirst(t *testing.T) { // P11.1
	for _, h := range []api.History{
		{}, {Bits: 0xffff}, {Bits: 0x8000, Next: 5}, {Bits: 0xffff, Next: 65535}, {Next: 5}, {Bits: 1, Next: 6}, {Bits: 0x5555, Next: 4},
	} {
		for _, s := range append([]uint16{4, 6, 21, 22}, seqnos...) {
			if got := Hear(h, s); got != knows(0x8000, s+1) {
				t.Errorf("Hear(%v, %d) = %v", h, s, got)
			}
		}
	}
}

func TestHearAtTheEdges(t *testing.T) { // P11.1
	for _, c := range []struct {
		bits, next, seqno, want uint16
	}{
		// Next itself.
		{0x8000, 6, 6, 0xc000}, {0, 6, 6, 0x8000}, {0xffff, 6, 6, 0xffff}, {0x0001, 6, 6, 0x8000}, {0xfffe, 6, 6, 0xffff}, {0xa5a5, 6, 6, 0xd2d2},
		// Ahead: as many were missed.
		{0x8000, 6, 7, 0xa000}, {0xffff, 6, 7, 0xbfff}, {0xffff, 6, 8, 0x9fff}, {0xffff, 6, 19, 0x8003}, {0xffff, 6, 20, 0x8001}, {0xffff, 6, 21, 0x8000}, {0x8000, 6, 20, 0x8001},
		{0xffff, 6, 22, 0x8000}, {0xffff, 6, 23, 0x8000}, {0xffff, 6, 24, 0x8000},
		// Behind: as many were thought missed too early.
		{0x2800, 10, 8, 0xd000}, {0x8000, 6, 5, 0x8000}, {0xc000, 6, 5, 0xc000}, {0x4000, 6, 5, 0xc000}, {0xffff, 6, 5, 0xffff}, {0xffff, 6, 4, 0xfffe},
		{0xffff, 6, 3, 0xfffc}, {0xffff, 16, 2, 0xe000}, {0xffff, 16, 1, 0xc000}, {0x0001, 16, 1, 0xc000}, {0xfffe, 16, 1, 0x8000}, {0xffff, 17, 1, 0x8000}, {0xffff, 18, 1, 0x8000},
		// Across 65535 and 0.
		{0x8000, 65535, 65535, 0xc000}, {0x8000, 0, 0, 0xc000}, {0xffff, 65535, 0, 0xbfff}, {0xffff, 65535, 1, 0x9fff}, {0xffff, 65530, 7, 0x8003}, {0xffff, 65530, 8, 0x8001}, {0xffff, 65530, 9, 0x8000}, {0xffff, 65530, 10, 0x8000}, {0xffff, 65530, 11, 0x8000},
		{0x4000, 0, 65535, 0xc000}, {0x2000, 1, 65535, 0xc000}, {0xffff, 9, 65530, 0xc000}, {0xffff, 10, 65530, 0x8000}, {0xffff, 11, 65530, 0x8000},
		// Half a round and about.
		{0xffff, 0, 32767, 0x8000}, {0xffff, 0, 32768, 0x8000}, {0xffff, 0, 32769, 0x8000}, {0xffff, 40000, 7232, 0x8000}, {0xffff, 40000, 7231, 0x8000}, {0xffff, 40000, 7233, 0x8000},
		{0xffff, 6, 100, 0x8000}, {0xffff, 100, 6, 0x8000}, {0xffff, 6, 65000, 0x8000}, {0xffff, 65000, 6, 0x8000},
	} {
		if got := Hear(knows(c.bits, c.next), c.seqno); got != knows(c.want, c.seqno+1) {
			t.Errorf("Hear(%04x and %d, %d) = %04x %v", c.bits, c.next, c.seqno, got.Bits, got)
		}
	}
}

// 16 apart no bit is left of what was there; farther away all is begun anew: the outcome is the same.
func TestHearFromAfarBeginsAnew(t *testing.T) { // P11.1
	for _, next := range seqnos {
		for k := 16; k <= 65536-16; k++ {
			if got := Hear(knows(0xffff, next), next+uint16(k)); got != knows(0x8000, next+uint16(k)+1) {
				t.Fatalf("%d ahead of %d: %v", k, next, got)
			}
		}
	}
}

func TestMissAtTheEdges(t *testing.T) { // P11.2
	for _, c := range []struct {
		bits, next uint16
		n          int
		want, then uint16
	}{
		{0xa000, 8, 0, 0xa000, 8}, {0xa000, 8, -1, 0xa000, 8}, {0xa000, 8, -65536, 0xa000, 8}, {0xa000, 8, math.MinInt, 0xa000, 8},
		{0xa000, 8, 1, 0x5000, 9}, {0xa000, 8, 2, 0x2800, 10}, {0xffff, 8, 1, 0x7fff, 9}, {0xffff, 8, 3, 0x1fff, 11}, {0x0001, 8, 1, 0, 9}, {0, 8, 1, 0, 9},
		{0xffff, 8, 15, 1, 23}, {0xffff, 8, 16, 0, 24}, {0xffff, 8, 17, 0, 25}, {0xffff, 8, 31, 0, 39}, {0xffff, 8, 32, 0, 40}, {0xffff, 8, 63, 0, 71}, {0xffff, 8, 64, 0, 72}, {0xffff, 8, 65, 0, 73},
		{0xffff, 65535, 1, 0x7fff, 0}, {0xffff, 65534, 1, 0x7fff, 65535}, {0xffff, 65534, 3, 0x1fff, 1}, {0xffff, 65520, 16, 0, 0}, {0xffff, 65520, 17, 0, 1},
		{0xffff, 8, 65535, 0, 7}, {0xffff, 8, 65536, 0, 8}, {0xffff, 8, 65537, 0, 9}, {0xffff, 8, 1 << 20, 0, 8},
		{0xffff, 8, math.MaxInt32, 0, 7}, {0xffff, 8, math.MaxInt, 0, 7}, {0xffff, 0, math.MaxInt, 0, 65535}, {0xffff, 8, math.MaxInt - 65535, 0, 8},
	} {
		if got := Miss(knows(c.bits, c.next), c.n); got != knows(c.want, c.then) {
			t.Errorf("Miss(%04x and %d, %d) = %04x %v", c.bits, c.next, c.n, got.Bits, got)
		}
	}
}

func TestMissOfNothingKnown(t *testing.T) { // P11.2
	for _, h := range []api.History{{}, {Bits: 0xffff}, {Next: 5}, {Bits: 0x8000, Next: 65535}} {
		for _, n := range []int{math.MinInt, -1, 0, 1, 2, 16, 17, 65536, math.MaxInt} {
			if got := Miss(h, n); got != h {
				t.Errorf("Miss(%v, %d) = %v", h, n, got)
			}
		}
	}
}

func TestRxOfWired(t *testing.T) { // P11.3
	highest := []bool{0: false, 1: false, 2: false, 3: true, 4: false, 5: true, 6: true, 7: true} // by the three bits as a number
	for three, heard := range highest {
		for _, below := range []uint16{0, 1, 0x1000, 0x0f0f, 0x1fff} {
			bits := uint16(three)<<13 | below
			for _, cost := range []uint16{0, 1, 96, 256, 65534, 65535} {
				want := uint16(65535)
				if heard {
					want = cost
				}
				if got := Rx(api.Wired, cost, knows(bits, 7)); got != want {
					t.Errorf("Rx(Wired, %d, %04x) = %d", cost, bits, got)
				}
			}
		}
	}
}

func TestRxOfWireless(t *testing.T) { // P11.3
	for _, c := range []struct {
		cost, bits, want uint16
	}{
		// No bit.
		{256, 0, 65535}, {0, 0, 65535}, {1, 0, 65535}, {65535, 0, 65535},
		// One, wherever it stands.
		{256, 0x8000, 4096}, {256, 0x0001, 4096}, {256, 0x0400, 4096}, {0, 0x8000, 0}, {1, 0x8000, 16}, {96, 1, 1536},
		// Two and more, rounded down.
		{256, 0xa000, 2048}, {256, 0x8001, 2048}, {256, 0x0003, 2048}, {256, 0xe000, 1365}, {256, 0x1010, 2048}, {1, 0xe000, 5}, {1, 0xfe00, 2}, {1, 0x7fff, 1}, {1, 0xff80, 1}, {1, 0xff00, 2},
		{256, 0x5555, 512}, {256, 0xaaaa, 512}, {256, 0xff00, 512}, {256, 0x00ff, 512}, {300, 0xff80, 533},
		// Fifteen and sixteen.
		{256, 0x7fff, 273}, {256, 0xfffe, 273}, {256, 0xffff, 256}, {0, 0xffff, 0}, {1, 0xffff, 1}, {96, 0xffff, 96}, {65534, 0xffff, 65534},
		// At 65534 and above.
		{65535, 0xffff, 65534}, {65535, 0x7fff, 65534}, {65535, 0x8000, 65534}, {65534, 0x7fff, 65534},
		{4095, 0x8000, 65520}, {4096, 0x8000, 65534}, {4097, 0x8000, 65534}, {8191, 0xc000, 65528}, {8192, 0xc000, 65534},
		{61439, 0xfffe, 65534}, {61438, 0xfffe, 65533}, {61440, 0xfffe, 65534}, {36863, 0xff80, 65534}, {36862, 0xff80, 65532}, {36864, 0xff80, 65534},
	} {
		if got := Rx(api.Wireless, c.cost, knows(c.bits, 7)); got != c.want {
			t.Errorf("Rx(Wireless, %d, %04x) = %d, want %d", c.cost, c.bits, got, c.want)
		}
	}
}

func TestRxOfSeveral(t *testing.T) { // P11.3
	for _, c := range []struct {
		kind int
		cost uint16
		l    []api.History
		want uint16
	}{
		{api.Wired, 96, nil, 65535}, {api.Wired, 0, nil, 65535}, {api.Wireless, 256, nil, 65535}, {api.Wireless, 0, []api.History{}, 65535},
		{api.Wired, 96, ofBits(0, 0xc000), 96}, {api.Wired, 96, ofBits(0xc000, 0), 96}, {api.Wired, 96, ofBits(0xc000, 0xffff), 96}, {api.Wired, 96, ofBits(0, 0x8000, 0x1fff), 65535},
		// One bit in each of two is not two in one.
		{api.Wired, 96, ofBits(0x8000, 0x4000), 65535}, {api.Wireless, 256, ofBits(0xff00, 0x00ff), 512},
		{api.Wireless, 256, ofBits(0x8000, 0xffff), 256}, {api.Wireless, 256, ofBits(0xffff, 0x8000), 256}, {api.Wireless, 256, ofBits(0x8000, 0xffff, 0xff00), 256},
		{api.Wireless, 256, ofBits(0, 0x8000), 4096}, {api.Wireless, 256, ofBits(0x8000, 0), 4096}, {api.Wireless, 256, ofBits(0, 0, 0), 65535}, {api.Wireless, 65535, ofBits(0, 0x8000), 65534},
		// The two that a neighbour has, of which one is of no hello.
		{api.Wired, 96, []api.History{{}, knows(0xe000, 7)}, 96}, {api.Wireless, 256, []api.History{knows(0xe000, 7), {}}, 1365}, {api.Wired, 96, []api.History{{}, {}}, 65535},
	} {
		if got := Rx(c.kind, c.cost, c.l...); got != c.want {
			t.Errorf("Rx(%d, %d, %v) = %d, want %d", c.kind, c.cost, c.l, got, c.want)
		}
	}
	many := slices.Repeat(ofBits(0x8000, 0, 0xc000), 1000)
	if got := Rx(api.Wireless, 256, append(many, ofBits(0x7fff)...)...); got != 273 {
		t.Errorf("of %d histories and a better one: %d", len(many), got)
	}
}

// Only the bits have a part in Rx: neither what comes next, nor Known.
func TestRxByTheBitsAlone(t *testing.T) { // P11.3
	for _, next := range seqnos {
		for _, known := range []bool{false, true} {
			h := api.History{Bits: 0xa000, Next: next, Known: known}
			if Rx(api.Wired, 96, h) != 96 || Rx(api.Wireless, 256, h) != 2048 {
				t.Errorf("%v: %d, %d", h, Rx(api.Wired, 96, h), Rx(api.Wireless, 256, h))
			}
		}
	}
}

func TestOtherKinds(t *testing.T) { // P11.3, P11.4
	for _, kind := range noKinds {
		if got := Rx(kind, 96, ofBits(0xffff, 0xc000)...); got != 65535 {
			t.Errorf("Rx of kind %d: %d", kind, got)
		}
		if got := Rx(kind, 0); got != 65535 {
			t.Errorf("Rx of kind %d and none: %d", kind, got)
		}
		for _, c := range [][2]uint16{{0, 0}, {96, 96}, {256, 256}, {65534, 65534}, {65535, 1}, {1, 65535}, {65535, 65535}} {
			if got := Cost(kind, c[0], c[1]); got != 65535 {
				t.Errorf("Cost(%d, %d, %d) = %d", kind, c[0], c[1], got)
			}
		}
	}
}

func TestCost(t *testing.T) { // P11.4
	for _, c := range []struct {
		kind         int
		rx, tx, want uint16
	}{
		// There is no way in one direction.
		{api.Wired, 65535, 7, 65535}, {api.Wired, 7, 65535, 65535}, {api.Wired, 65535, 65535, 65535}, {api.Wired, 65535, 0, 65535}, {api.Wired, 0, 65535, 65535},
		{api.Wireless, 65535, 7, 65535}, {api.Wireless, 7, 65535, 65535}, {api.Wireless, 65535, 65535, 65535}, {api.Wireless, 65535, 0, 65535}, {api.Wireless, 0, 65535, 65535},
		// Of Wired tx, whatever rx is.
		{api.Wired, 5, 7, 7}, {api.Wired, 7, 5, 5}, {api.Wired, 96, 96, 96}, {api.Wired, 0, 96, 96}, {api.Wired, 96, 0, 0}, {api.Wired, 65534, 1, 1}, {api.Wired, 1, 65534, 65534}, {api.Wired, 65534, 65534, 65534},
		// Of Wireless a tx of 256 and less is 256.
		{api.Wireless, 256, 256, 256}, {api.Wireless, 256, 255, 256}, {api.Wireless, 256, 257, 257}, {api.Wireless, 256, 0, 256}, {api.Wireless, 256, 1, 256},
		{api.Wireless, 96, 255, 96}, {api.Wireless, 96, 256, 96}, {api.Wireless, 96, 257, 96}, {api.Wireless, 512, 255, 512}, {api.Wireless, 512, 256, 512}, {api.Wireless, 512, 257, 514},
		{api.Wireless, 256, 512, 512}, {api.Wireless, 512, 512, 1024}, {api.Wireless, 300, 300, 351}, {api.Wireless, 1, 257, 1}, {api.Wireless, 1, 511, 1}, {api.Wireless, 1, 512, 2}, {api.Wireless, 3, 340, 3}, {api.Wireless, 3, 342, 4},
		{api.Wireless, 0, 0, 0}, {api.Wireless, 0, 65534, 0}, {api.Wireless, 1, 0, 1}, {api.Wireless, 1, 65534, 255}, {api.Wireless, 255, 65534, 65278},
		// At 65534 and above.
		{api.Wireless, 65534, 0, 65534}, {api.Wireless, 65534, 256, 65534}, {api.Wireless, 65534, 257, 65534}, {api.Wireless, 65533, 256, 65533}, {api.Wireless, 65533, 257, 65534},
		{api.Wireless, 256, 65534, 65534}, {api.Wireless, 257, 65534, 65534}, {api.Wireless, 256, 65533, 65533}, {api.Wireless, 65534, 65534, 65534}, {api.Wireless, 32768, 512, 65534},
		{api.Wireless, 32767, 512, 65534}, {api.Wireless, 32766, 512, 65532}, {api.Wireless, 4096, 4095, 65520}, {api.Wireless, 4096, 4096, 65534}, {api.Wireless, 4097, 4095, 65534},
	} {
		if got := Cost(c.kind, c.rx, c.tx); got != c.want {
			t.Errorf("Cost(%d, %d, %d) = %d, want %d", c.kind, c.rx, c.tx, got, c.want)
		}
	}
}

func TestAllHeard(t *testing.T) { // P11.5
	for _, first := range seqnos {
		h := api.History{}
		for n := range 40 {
			h = Hear(h, first+uint16(n))
			for _, cost := range []uint16{0, 1, 96, 256, 65534} {
				if got := Rx(api.Wired, cost, h); n >= 2 && got != cost {
					t.Errorf("%d hellos from %d on, of Wired: %d, not %d", n+1, first, got, cost)
				}
				if got := Rx(api.Wireless, cost, h); n >= 15 && got != cost {
					t.Errorf("%d hellos from %d on, of Wireless: %d, not %d", n+1, first, got, cost)
				}
			}
		}
	}
}

// Whatever was heard and missed till then.
func TestAllHeardBehindWhatever(t *testing.T) { // P11.5
	for bits := 0; bits < 65536; bits += 7 {
		for _, next := range seqnos {
			h := knows(uint16(bits), next)
			for n := range 16 {
				h = Hear(h, next+uint16(n))
				if n >= 2 && Rx(api.Wired, 96, h) != 96 {
					t.Fatalf("%04x, then %d hellos: %d", bits, n+1, Rx(api.Wired, 96, h))
				}
			}
			if Rx(api.Wireless, 256, h) != 256 {
				t.Fatalf("%04x, then sixteen hellos: %d", bits, Rx(api.Wireless, 256, h))
			}
		}
	}
}

func TestSilence(t *testing.T) { // P11.6
	for bits := range 65536 {
		h := knows(uint16(bits), uint16(bits))
		for _, n := range []int{16, 17, 1000, math.MaxInt} {
			if g := Miss(h, n); Rx(api.Wireless, 0, g) != 65535 || Rx(api.Wired, 0, g) != 65535 {
				t.Fatalf("%04x, then %d missed: %d, %d", bits, n, Rx(api.Wireless, 0, g), Rx(api.Wired, 0, g))
			}
		}
		if g := Miss(h, 2); Rx(api.Wired, 96, g) != 65535 {
			t.Fatalf("%04x, then two missed, of Wired: %d", bits, Rx(api.Wired, 96, g))
		}
	}
	one := Miss(knows(0xffff, 6), 1)
	if Rx(api.Wired, 96, one) != 96 {
		t.Error("a wired link that misses one hello is still there")
	}
	if fifteen := Miss(knows(0xffff, 6), 15); Rx(api.Wireless, 256, fifteen) != 4096 {
		t.Error("a wireless link that heard one of sixteen hellos is still there")
	}
}

func TestTheExample(t *testing.T) { // P11.1, P11.3, P11.4
	h := Hear(api.History{}, 5)
	if h != (api.History{Bits: 0x8000, Next: 6, Known: true}) || Rx(api.Wired, 96, h) != api.Infinity {
		t.Errorf("Hear of nothing, 5: %v", h)
	}
	h = Hear(h, 7)
	if h != (api.History{Bits: 0xa000, Next: 8, Known: true}) || Rx(api.Wired, 96, h) != 96 {
		t.Errorf("Hear of that, 7: %v", h)
	}
	if got := Cost(api.Wireless, 256, 256); got != 256 {
		t.Errorf("Cost(Wireless, 256, 256) = %d", got)
	}
}

func TestNothingHandedInIsChanged(t *testing.T) { // rule 3
	l := ofBits(0xffff, 0x8000, 0, 0xa5a5, 0x1234)
	l[2].Known = false
	was := slices.Clone(l)
	for _, kind := range []int{api.Wired, api.Wireless, 2} {
		Rx(kind, 256, l[:3]...) // behind these lies spare room
		Rx(kind, 256, l...)
	}
	for i := range l {
		Hear(l[i], 9)
		Miss(l[i], 3)
	}
	if !slices.Equal(l, was) {
		t.Errorf("%v became %v", was, l)
	}
}

// What is answered hangs on what is handed in alone, whatever came ahead of it.
func TestNothingIsKept(t *testing.T) { // rule 4
	l := ofBits(0x8000, 0xffff, 0xc000)
	for range 3 {
		if Rx(api.Wireless, 256, l...) != 256 || Rx(api.Wireless, 256, l[0]) != 4096 || Rx(api.Wireless, 256) != 65535 {
			t.Error("Rx")
		}
		if Hear(l[0], 8) != knows(0xa000, 9) || Hear(api.History{}, 8) != knows(0x8000, 9) || Miss(l[0], 1) != knows(0x4000, 8) {
			t.Error("Hear, Miss")
		}
	}
}
