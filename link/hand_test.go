package link

import (
	"math/rand"
	"testing"

	"culvert/api"
)

// tale is a history as a second reading of the chapter has it: the hellos one by one, the last one first.
type tale struct {
	heard [16]bool
	next  int
	known bool
}

func taleOf(h api.History) tale {
	t := tale{next: int(h.Next), known: h.Known}
	for i := range t.heard {
		t.heard[i] = int(h.Bits)/(1<<(15-i))%2 == 1
	}
	return t
}

func (t tale) history() api.History {
	bits := 0
	for _, b := range t.heard {
		bits *= 2
		if b {
			bits++
		}
	}
	return api.History{Bits: uint16(bits), Next: uint16(t.next), Known: t.known}
}

func (t *tale) put(b bool) {
	for i := 15; i > 0; i-- {
		t.heard[i] = t.heard[i-1]
	}
	t.heard[0] = b
}

func (t *tale) takeOut() {
	for i := range 15 {
		t.heard[i] = t.heard[i+1]
	}
	t.heard[15] = false
}

// hear goes step by step from next to seqno, first on, then back.
func (t *tale) hear(seqno int) {
	on, back := 0, 0
	for (t.next+on)%65536 != seqno {
		on++
	}
	for (seqno+back)%65536 != t.next {
		back++
	}
	if !t.known || min(on, back) > 16 {
		t.heard, on, back = [16]bool{}, 0, 0
	}
	if on <= back {
		for range on {
			t.put(false)
		}
	} else {
		for range back {
			t.takeOut()
		}
	}
	t.put(true)
	t.next, t.known = (seqno+1)%65536, true
}

func (t *tale) miss(n int) {
	for i := 0; i < n && t.known; i++ {
		t.put(false)
		t.next = (t.next + 1) % 65536
	}
}

func (t tale) count(of int) int {
	n := 0
	for _, b := range t.heard[:of] {
		if b {
			n++
		}
	}
	return n
}

func (t tale) rx(kind, cost int) int {
	switch {
	case kind == 0 && t.count(3) >= 2:
		return cost
	case kind == 1 && t.count(16) > 0:
		return min(cost*16/t.count(16), 65534)
	}
	return 65535
}

// near is how far from next the seqnos lie that count.
var near = []int{-40000, -32769, -32768, -32767, -17, -16, -15, -2, -1, 0, 1, 2, 15, 16, 17, 32767, 32768, 32769, 40000}

func TestHearByHand(t *testing.T) { // P11.1
	r := rand.New(rand.NewSource(11))
	for range 600 {
		h := api.History{Bits: uint16(r.Intn(65536)), Next: uint16(r.Intn(65536)), Known: r.Intn(8) > 0}
		if r.Intn(2) == 0 {
			h.Next = uint16(65536 - 20 + r.Intn(40))
		}
		s := h.Next + uint16(near[r.Intn(len(near))])
		if r.Intn(2) == 0 {
			s = h.Next + uint16(r.Intn(40)-20)
		}
		want := taleOf(h)
		want.hear(int(s))
		if got := Hear(h, s); got != want.history() {
			t.Fatalf("Hear(%v, %d) = %v, want %v", h, s, got, want.history())
		}
	}
}

func TestMissByHand(t *testing.T) { // P11.2
	r := rand.New(rand.NewSource(12))
	for range 20000 {
		h := api.History{Bits: uint16(r.Intn(65536)), Next: uint16(r.Intn(65536)), Known: r.Intn(8) > 0}
		n := r.Intn(40) - 5
		if r.Intn(100) == 0 {
			n = r.Intn(200000)
		}
		want := taleOf(h)
		want.miss(n)
		if got := Miss(h, n); got != want.history() {
			t.Fatalf("Miss(%v, %d) = %v, want %v", h, n, got, want.history())
		}
	}
}

func TestRxByHand(t *testing.T) { // P11.3
	costs := []int{0, 1, 96, 256, 4095, 4096, 61438, 61439, 65534, 65535}
	for bits := range 65536 {
		h := api.History{Bits: uint16(bits), Known: true}
		for _, cost := range costs {
			for kind := range 3 {
				if got := Rx(kind, uint16(cost), h); int(got) != taleOf(h).rx(kind, cost) {
					t.Fatalf("Rx(%d, %d, %04x) = %d", kind, cost, bits, got)
				}
			}
		}
	}
}

func TestRxOfSeveralByHand(t *testing.T) { // P11.3
	r := rand.New(rand.NewSource(13))
	for range 20000 {
		kind, cost, want := r.Intn(3), r.Intn(65536), 65535
		l := make([]api.History, r.Intn(5))
		for i := range l {
			l[i] = api.History{Bits: uint16(r.Intn(65536) & r.Intn(65536)), Next: uint16(r.Intn(65536)), Known: true}
			want = min(want, taleOf(l[i]).rx(kind, cost))
		}
		if got := Rx(kind, uint16(cost), l...); int(got) != want {
			t.Fatalf("Rx(%d, %d, %v) = %d, want %d", kind, cost, l, got, want)
		}
	}
}

func costByHand(kind, rx, tx int64) int64 {
	switch {
	case rx == 65535 || tx == 65535 || kind != 0 && kind != 1:
		return 65535
	case kind == 0:
		return tx
	}
	return min(max(tx, 256)*rx/256, 65534)
}

func TestCostByHand(t *testing.T) { // P11.4
	steps := []int64{0, 1, 2, 96, 255, 256, 257, 511, 512, 513, 4095, 4096, 4097, 32767, 32768, 65278, 65533, 65534, 65535}
	for i := int64(0); i < 65536; i++ {
		for _, j := range steps {
			for kind := int64(-1); kind < 3; kind++ {
				if got := Cost(int(kind), uint16(i), uint16(j)); int64(got) != costByHand(kind, i, j) {
					t.Fatalf("Cost(%d, %d, %d) = %d", kind, i, j, got)
				}
				if got := Cost(int(kind), uint16(j), uint16(i)); int64(got) != costByHand(kind, j, i) {
					t.Fatalf("Cost(%d, %d, %d) = %d", kind, j, i, got)
				}
			}
		}
	}
}
