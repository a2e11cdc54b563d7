package rtt

import (
	"math/big"
	"math/rand"
	"testing"

	"culvert/api"
)

// whatever is a number from 0 to greatest, often near an end, or near 2^31.
func whatever(r *rand.Rand, greatest int64) int64 {
	switch r.Intn(4) {
	case 0:
		return r.Int63n(min(greatest, 600) + 1)
	case 1:
		return greatest - r.Int63n(min(greatest, 600)+1)
	case 2:
		return min(greatest, 1<<31-300+r.Int63n(301))
	}
	return r.Int63n(greatest + 1)
}

// floor is a second reading of what is divided and rounded down: of numbers of any size.
func floor(sum, by int64) int64 {
	return new(big.Int).Div(big.NewInt(sum), big.NewInt(by)).Int64() // of a by above 0 Div rounds down
}

// since is how far a clock went from one time to another: it never goes back.
func since(from, to int64) int64 {
	if to < from {
		to += 1 << 32
	}
	return to - from
}

func TestSampleByHand(t *testing.T) { // P12.1
	r := rand.New(rand.NewSource(1))
	samples := 0
	for range 200000 {
		origin, received, sent, now := whatever(r, top), whatever(r, top), whatever(r, top), whatever(r, top)
		away, waited := since(origin, now), since(received, sent)
		want, is := int64(0), away < 1<<31 && waited < 1<<31 && away >= waited
		if is {
			want = away - waited
			samples++
		}
		if got, ok := Sample(uint32(origin), uint32(received), uint32(sent), uint32(now)); int64(got) != want || ok != is {
			t.Fatalf("Sample(%d, %d, %d, %d) = %d, %v, want %d, %v", origin, received, sent, now, got, ok, want, is)
		}
	}
	if samples < 20000 || samples > 180000 {
		t.Errorf("%d of them are samples", samples)
	}
}

func TestSmoothByHand(t *testing.T) { // P12.2, P12.5
	r := rand.New(rand.NewSource(2))
	for range 100000 {
		decay, old := 1+r.Int63n(256), whatever(r, 1<<31)
		if r.Intn(4) == 0 {
			old = -1 - r.Int63n(3)
		}
		l, want, least, greatest := make([]int, r.Intn(6)), old, old, old
		for i := range l {
			s := whatever(r, 1<<31)
			l[i] = int(s)
			if want < 0 {
				want, least, greatest = s, s, s
			} else {
				want = floor(want*256-want*decay+s*decay, 256)
			}
			least, greatest = min(least, s), max(greatest, s)
		}
		got := int64(Smooth(fades(int(decay)), int(old), l...))
		if got != want || got < least || got > greatest {
			t.Fatalf("Smooth of Decay %d, old %d, %v: %d, want %d", decay, old, l, got, want)
		}
	}
}

func TestCostByHand(t *testing.T) { // P12.3, P12.5
	r := rand.New(rand.NewSource(3))
	for range 100000 {
		least := whatever(r, 999999)
		greatest := least + 1 + whatever(r, 999999-least)
		cost, at := 1+whatever(r, 65533), whatever(r, 1100000)
		if r.Intn(2) == 0 {
			at = least + r.Int63n(greatest-least+1)
		}
		want := int64(0)
		if at > least {
			want = min(cost, floor(cost*(at-least), greatest-least)) // what is above Cost stands behind Max
		}
		c := climbs(int(least), int(greatest), int(cost))
		got := Cost(c, int(at))
		if int64(got) != want {
			t.Fatalf("Cost(%v, %d) = %d, want %d", c, at, got, want)
		}
		if next := Cost(c, int(at)+1); next < got || int64(next) > cost {
			t.Fatalf("Cost(%v, %d) = %d, and behind it %d", c, at, got, next)
		}
		if c.On = false; Cost(c, int(at)) != 0 {
			t.Fatalf("Cost(%v, %d) = %d", c, at, Cost(c, int(at)))
		}
	}
}

func TestClockByHand(t *testing.T) { // P12.4
	r := rand.New(rand.NewSource(4))
	round := big.NewInt(1 << 32)
	for range 100000 {
		now := r.Int63() >> r.Intn(63)
		want := new(big.Int).Mul(big.NewInt(now), big.NewInt(1000))
		if got := Clock(int(now)); uint64(got) != want.Mod(want, round).Uint64() {
			t.Fatalf("Clock(%d) = %d, want %d", now, got, want)
		}
	}
}

// A hello's way there and back, with a neighbour whose clock stands anywhere, is just what the link took.
func TestSampleOfAWay(t *testing.T) { // P12.1, P12.2
	r := rand.New(rand.NewSource(5))
	c := api.Rtt{On: true, Min: 10000, Max: 120000, Cost: 150, Decay: 42}
	for range 20000 {
		mine, theirs := r.Uint32(), r.Uint32()
		there, waits, back := uint32(r.Intn(500000)), uint32(r.Intn(4000000)), uint32(r.Intn(500000))
		got, ok := Sample(mine, theirs+there, theirs+there+waits, mine+there+waits+back)
		if got != int(there+back) || !ok {
			t.Fatalf("%d there, %d waiting, %d back: %d, %v", there, waits, back, got, ok)
		}
		if Smooth(c, got, got, got) != got || Smooth(c, -1, got) != got {
			t.Fatalf("of %d alone: %d", got, Smooth(c, got, got, got))
		}
	}
}
