package neigh

import (
	"math"
	"slices"
	"testing"

	"culvert/addr"
	"culvert/api"
	"culvert/link"
)

// stays fails unless Tick takes nobody away.
func stays(t *testing.T, x *Table, now int) {
	t.Helper()
	if gone := x.Tick(now); len(gone) != 0 {
		t.Fatalf("Tick(%d): %v are gone", now, gone)
	}
}

// leave fails unless Tick takes just these away.
func leave(t *testing.T, x *Table, now int, want ...api.Neighbour) {
	t.Helper()
	if gone := x.Tick(now); !slices.Equal(gone, want) {
		t.Fatalf("Tick(%d): %v are gone, want %v", now, gone, want)
	}
}

// greet has hellos with the seqnos 0, 1 and so on come, so many, all at now.
func greet(t *testing.T, x *Table, now, i int, n byte, interval uint16, times int) {
	t.Helper()
	for s := range times {
		must(t, x.Hello(now, i, who(n), hello(uint16(s), interval)))
	}
}

func TestExample(t *testing.T) { // P13.2 to P13.5
	x := New(1, faces()...)
	for s := range 3 {
		must(t, x.Hello(4000*s, wired, who(2), hello(uint16(s), 400)))
	}
	must(t, x.Ihu(8000, wired, who(2), ihu(96, 1200)))
	for _, c := range []struct {
		now  int
		cost uint16
	}{{8000, 96}, {13999, 96}, {14000, 96}, {17999, 96}, {18000, api.Infinity}} {
		stays(t, x, c.now)
		if got := x.Cost(wired, who(2)); got != c.cost {
			t.Errorf("at %d: %d, want %d", c.now, got, c.cost)
		}
	}
}

// One ahead of it, at it, and one behind it, a hello is missed or not.
func TestTickAtMultiAt(t *testing.T) { // P13.4
	for _, c := range []struct {
		now  int
		bits uint16
		next uint16
		at   int
	}{
		{0, 0xe000, 3, 7000}, {1000, 0xe000, 3, 7000}, {6999, 0xe000, 3, 7000}, {7000, 0x7000, 4, 11000}, {7001, 0x7000, 4, 11000}, {10999, 0x7000, 4, 11000}, {11000, 0x3800, 5, 15000}, {11001, 0x3800, 5, 15000},
		{14999, 0x3800, 5, 15000}, {15000, 0x1c00, 6, 19000}, {58999, 0x0007, 16, 59000}, {59000, 0x0003, 17, 63000}, // several at once
	} {
		x := New(1, faces()...)
		greet(t, x, 1000, wired, 1, 400, 3)
		stays(t, x, c.now)
		n := api.Neighbour{Addr: who(1), Multi: bits(c.bits, c.next), MultiGap: 4000, MultiAt: c.at, Tx: api.Infinity}
		holds(t, x, n)
		comes(t, x, c.at)
		stays(t, x, c.now) // what is missed is missed once
		holds(t, x, n)
	}
}

func TestTickAtUniAt(t *testing.T) { // P13.4
	for _, c := range []struct {
		now  int
		bits uint16
		next uint16
		at   int
	}{
		{0, 0xc000, 7, 7000}, {6999, 0xc000, 7, 7000}, {7000, 0x6000, 8, 11000}, {7001, 0x6000, 8, 11000}, {10999, 0x6000, 8, 11000}, {11000, 0x3000, 9, 15000}, {11001, 0x3000, 9, 15000}, {19000, 0x0c00, 11, 23000},
	} {
		x := New(1, faces()...)
		must(t, x.Hello(1000, wireless, who(1), unicast(5, 100)))
		must(t, x.Hello(1000, wireless, who(1), unicast(6, 400)))
		stays(t, x, c.now)
		n := api.Neighbour{If: wireless, Addr: who(1), Uni: bits(c.bits, c.next), UniGap: 4000, UniAt: c.at, Tx: api.Infinity}
		holds(t, x, n)
		comes(t, x, c.at)
		stays(t, x, c.now)
		holds(t, x, n)
	}
}

func TestTickAtTxAt(t *testing.T) { // P13.4
	for _, c := range []struct {
		now, txAt int
		interval  uint16
		tx        uint16
	}{
		{1000, 1035, 1, 96}, {1034, 1035, 1, 96}, {1035, 1035, 1, api.Infinity}, {1036, 1035, 1, api.Infinity}, {latest, 1035, 1, api.Infinity},
		{999, 1000, 0, 96}, {1000, 1000, 0, api.Infinity}, {1001, 1000, 0, api.Infinity}, {42999, 43000, 1200, 96}, {43000, 43000, 1200, api.Infinity},
	} {
		x := New(1, faces()...)
		must(t, x.Hello(0, wired, who(1), hello(5, 0)))
		must(t, x.Ihu(1000, wired, who(1), ihu(96, c.interval)))
		comes(t, x, c.txAt)
		stays(t, x, c.now)
		n := fresh(wired, 1)
		n.Tx, n.TxAt = c.tx, c.txAt // the time stays
		holds(t, x, n)
		if c.tx == api.Infinity {
			rests(t, x)
		} else {
			comes(t, x, c.txAt)
		}
	}
}

// A Tx of Infinity does not run out: its time says nothing.
func TestTickOfATxOfInfinity(t *testing.T) { // P13.4
	x := New(1, faces()...)
	must(t, x.Hello(0, wired, who(1), hello(5, 0)))
	must(t, x.Ihu(1000, wired, who(1), ihu(api.Infinity, 1)))
	rests(t, x)
	n := fresh(wired, 1)
	n.Tx, n.TxAt = api.Infinity, 1035
	stays(t, x, 5000)
	holds(t, x, n)
}

// The histories and Tx run out each at its own time, whatever becomes of the others.
func TestTickOfAllThree(t *testing.T) { // P13.4
	x := New(1, faces()...)
	greet(t, x, 0, timedWired, 1, 400, 1)
	must(t, x.Hello(0, timedWired, who(1), unicast(70, 100, 9)))
	must(t, x.Ihu(0, timedWired, who(1), ihu(96, 100, 0, 9)))
	n := api.Neighbour{If: timedWired, Addr: who(1), Multi: bits(0x8000, 1), Uni: bits(0x8000, 71), MultiGap: 4000, UniGap: 1000, MultiAt: 6000, UniAt: 1500, Tx: 96, TxAt: 3500, Sent: 9, HasSent: true, HasRtt: true}
	holds(t, x, n)
	comes(t, x, 1500)
	stays(t, x, 1499)
	holds(t, x, n)
	stays(t, x, 3499)
	n.Uni, n.UniAt = bits(0x2000, 73), 3500
	holds(t, x, n)
	stays(t, x, 3500)
	n.Uni, n.UniAt, n.Tx = bits(0x1000, 74), 4500, api.Infinity
	holds(t, x, n)
	stays(t, x, 6000)
	n.Uni, n.UniAt, n.Multi, n.MultiAt = bits(0x0400, 76), 6500, bits(0x4000, 2), 10000
	holds(t, x, n)
	comes(t, x, 6500)
	stays(t, x, 17000) // the last bit of Uni goes at 16500
	n.Uni, n.UniAt, n.Multi, n.MultiAt = bits(0, 87), 17500, bits(0x1000, 4), 18000
	holds(t, x, n)
	comes(t, x, 18000) // what Uni has no bit for is not missed any more
	stays(t, x, 65999)
	n.Multi, n.MultiAt = bits(1, 16), 66000
	holds(t, x, n)
	n.Multi, n.MultiAt = bits(0, 17), 70000
	leave(t, x, 66000, n)
	holds(t, x)
	rests(t, x)
}

// The same where Multi is the one that runs out first.
func TestTickWhereUniLasts(t *testing.T) { // P13.4
	x := New(1, faces()...)
	must(t, x.Hello(0, wired, who(1), hello(5, 100)))
	must(t, x.Hello(0, wired, who(1), unicast(5, 400)))
	stays(t, x, 65999)
	n := api.Neighbour{Addr: who(1), Multi: bits(0, 22), Uni: bits(1, 21), MultiGap: 1000, UniGap: 4000, MultiAt: 17500, UniAt: 66000, Tx: api.Infinity}
	holds(t, x, n)
	comes(t, x, 66000)
	n.Uni, n.UniAt = bits(0, 22), 70000
	leave(t, x, 66000, n)
}

// However late Tick comes, a history loses what it has, and no more: its time stands where the last bit went.
func TestTickLate(t *testing.T) { // P13.4
	for _, c := range []struct {
		heard    int
		interval uint16
		next     uint16
		at       int
	}{{1, 1, 17, 175}, {2, 1, 18, 175}, {3, 1, 19, 175}, {16, 1, 32, 175}, {20, 1, 36, 175}, {3, 400, 19, 70000}, {3, 65535, 19, 11468625}} {
		for _, now := range []int{20000000, 1 << 31, latest} {
			x := New(1, faces()...)
			greet(t, x, 0, wired, 1, c.interval, c.heard)
			gap := int(c.interval) * 10
			leave(t, x, now, api.Neighbour{Addr: who(1), Multi: bits(0, c.next), MultiGap: gap, MultiAt: c.at, Tx: api.Infinity})
			holds(t, x)
		}
	}
}

// Without an Interval nobody knows when the next one is missed.
func TestTickOfAGapOfZero(t *testing.T) { // P13.4
	for _, h := range []api.Tlv{hello(5, 0), unicast(5, 0)} {
		x := New(1, faces()...)
		must(t, x.Hello(1000, wired, who(1), h))
		ahead := x.List()
		rests(t, x)
		for _, now := range []int{0, 1000, 1001, 100000, latest} {
			stays(t, x, now)
			holds(t, x, ahead...)
		}
	}
	// One history with a gap, one without: the one that stays keeps the neighbour.
	x := New(1, faces()...)
	must(t, x.Hello(0, wired, who(1), hello(5, 0)))
	must(t, x.Hello(0, wired, who(1), unicast(5, 100)))
	comes(t, x, 1500)
	stays(t, x, latest)
	rests(t, x)
	n := fresh(wired, 1)
	n.Uni, n.UniGap, n.UniAt = bits(0, 22), 1000, 17500
	holds(t, x, n)
	// With a gap again it goes.
	must(t, x.Hello(latest, wired, who(1), hello(6, 1)))
	comes(t, x, latest+15)
	n.Multi, n.MultiGap, n.MultiAt = bits(0, 23), 10, latest+175
	leave(t, x, latest+165, n)
}

// A hello puts off what is missed, and one with a gap of 0 for good.
func TestTickBehindANewHello(t *testing.T) { // P13.4
	x := New(1, faces()...)
	greet(t, x, 0, wired, 1, 400, 3)
	stays(t, x, 10000)
	comes(t, x, 14000)
	must(t, x.Hello(10000, wired, who(1), hello(3, 400))) // both that were thought missed were not sent
	n := api.Neighbour{Addr: who(1), Multi: bits(0xf000, 4), MultiGap: 4000, MultiAt: 16000, Tx: api.Infinity}
	holds(t, x, n)
	comes(t, x, 16000)
	stays(t, x, 15999)
	holds(t, x, n)
	must(t, x.Hello(15999, wired, who(1), hello(4, 0)))
	rests(t, x)
}

// A history without a bit, which one was heard of once, begins again with the next hello.
func TestHelloBehindAHistoryWithoutABit(t *testing.T) { // P13.2, P13.4
	x := New(1, faces()...)
	must(t, x.Hello(0, wired, who(1), unicast(5, 0)))
	must(t, x.Hello(0, wired, who(1), hello(5, 1)))
	stays(t, x, 1000)
	n := api.Neighbour{Addr: who(1), Uni: bits(0x8000, 6), Multi: bits(0, 22), MultiGap: 10, MultiAt: 175, Tx: api.Infinity}
	holds(t, x, n)
	rests(t, x)
	must(t, x.Hello(1000, wired, who(1), hello(22, 1)))
	n.Multi, n.MultiAt = bits(0x8000, 23), 1015
	holds(t, x, n)
	comes(t, x, 1015)
}

// Who leaves is told in List's order, as it was then; the others stay.
func TestTickTellsWhoIsGone(t *testing.T) { // P13.4
	x := New(9, faces()...)
	for _, c := range []struct {
		i int
		n byte
	}{{timedWireless, 1}, {wired, 7}, {wireless, 200}, {wireless, 5}, {wired, 6}, {timedWired, 4}} {
		must(t, x.Hello(0, c.i, who(c.n), hello(5, 1)))
	}
	must(t, x.Hello(0, wireless, who(100), hello(5, 400)))
	must(t, x.Hello(0, timedWired, who(3), hello(5, 0)))
	must(t, x.Ihu(0, wired, who(7), ihu(96, 4)))
	must(t, x.Ihu(0, wireless, who(5), ihu(96, 5)))
	gone := func(i int, n byte) api.Neighbour {
		return api.Neighbour{If: i, Addr: who(n), Multi: bits(0, 22), MultiGap: 10, MultiAt: 175, Tx: api.Infinity}
	}
	lost, kept := gone(wired, 7), gone(wireless, 5)
	lost.TxAt, kept.Tx, kept.TxAt = 140, 96, 175
	stays(t, x, 164)
	leave(t, x, 165, gone(wired, 6), lost, kept, gone(wireless, 200), gone(timedWired, 4), gone(timedWireless, 1))
	holds(t, x,
		api.Neighbour{If: wireless, Addr: who(100), Multi: bits(0x8000, 6), MultiGap: 4000, MultiAt: 6000, Tx: api.Infinity},
		fresh(timedWired, 3))
	stays(t, x, 165)
	if x.Cost(wireless, who(5)) != api.Infinity || x.Rx(wireless, who(5)) != api.Infinity {
		t.Error("what is gone costs")
	}
}

func TestNext(t *testing.T) { // P13.4
	x := New(9, faces()...)
	rests(t, x)
	must(t, x.Hello(0, wireless, who(5), hello(5, 0)))
	rests(t, x) // one of whom nothing will change
	must(t, x.Hello(0, wireless, who(4), hello(5, 400)))
	comes(t, x, 6000)
	must(t, x.Hello(0, wired, who(4), unicast(5, 300)))
	comes(t, x, 4500)
	must(t, x.Ihu(0, wireless, who(5), ihu(96, 100)))
	comes(t, x, 3500)
	must(t, x.Hello(0, timedWireless, who(9), hello(5, 200)))
	comes(t, x, 3000)
	must(t, x.Hello(0, timedWireless, who(9), hello(6, 600))) // 9000
	comes(t, x, 3500)
	must(t, x.Ihu(0, wireless, who(5), ihu(api.Infinity, 100)))
	comes(t, x, 4500)
	x.Drop(wired)
	comes(t, x, 6000)
	must(t, x.Hello(0, timedWired, who(1), hello(5, 400))) // two at one time
	comes(t, x, 6000)
	stays(t, x, 6000)
	comes(t, x, 9000)
	x.Drop(wireless, timedWireless)
	comes(t, x, 10000)
	x.Drop(timedWired)
	rests(t, x)
}

// Next of 0 is a time, where there is one.
func TestNextAtZero(t *testing.T) { // P13.4
	x := New(1, faces()...)
	must(t, x.Hello(0, wired, who(1), hello(5, 400)))
	must(t, x.Ihu(0, wired, who(1), ihu(96, 0)))
	comes(t, x, 0)
	stays(t, x, 0)
	comes(t, x, 6000)
}

// One ahead of Next Tick changes nothing; at Next it does; and behind Tick Next lies behind that time.
func TestNextIsTheFirst(t *testing.T) { // P13.4
	x := New(9, faces()...)
	greet(t, x, 0, wired, 1, 400, 3)
	greet(t, x, 0, wireless, 1, 77, 9)
	greet(t, x, 0, wireless, 2, 0, 2)
	must(t, x.Hello(0, wireless, who(2), unicast(5, 333)))
	must(t, x.Hello(0, timedWired, who(2), unicast(5, 1)))
	must(t, x.Ihu(0, wired, who(1), ihu(96, 1201)))
	must(t, x.Ihu(0, wireless, who(2), ihu(256, 1000)))
	must(t, x.Ihu(0, timedWired, who(2), ihu(100, 1000)))
	steps := 0
	for at, ok := x.Next(); ok; at, ok = x.Next() {
		ahead := x.List()
		stays(t, x, at-1)
		holds(t, x, ahead...)
		gone := x.Tick(at)
		if slices.Equal(x.List(), ahead) {
			t.Fatalf("at %d nothing changes", at)
		}
		if after, ok := x.Next(); ok && after <= at {
			t.Fatalf("behind Tick(%d) Next() = %d", at, after)
		}
		if len(gone)+len(x.List()) != len(ahead) {
			t.Fatalf("Tick(%d): %d and %d of %d", at, len(gone), len(x.List()), len(ahead))
		}
		steps++
	}
	if len(x.List()) != 1 || steps != 64+2 { // four histories' sixteen each, and a Tx each but of the one that is gone by then
		t.Error(steps, x.List())
	}
}

func TestRxAndCost(t *testing.T) { // P13.5
	for _, c := range []struct {
		i           int
		multi, uni  int // how many hellos came
		tx, rx, all uint16
	}{
		{wired, 1, 0, 96, api.Infinity, api.Infinity}, {wired, 2, 0, 96, 96, 96}, {wired, 3, 0, 200, 96, 200}, {wired, 2, 0, 0, 96, 0}, {wired, 3, 0, api.Infinity, 96, api.Infinity}, {wired, 2, 0, 65534, 96, 65534},
		{wired, 0, 2, 96, 96, 96}, {wired, 1, 2, 96, 96, 96}, {wired, 2, 1, 96, 96, 96}, {wired, 1, 1, 96, api.Infinity, api.Infinity}, {wired, 0, 1, 96, api.Infinity, api.Infinity},
		{wireless, 1, 0, 256, 4096, 4096}, {wireless, 16, 0, 256, 256, 256}, {wireless, 8, 0, 256, 512, 512}, {wireless, 8, 0, 512, 512, 1024}, {wireless, 8, 0, 0, 512, 512}, {wireless, 5, 0, 300, 819, 959}, {wireless, 4, 8, 256, 512, 512}, {wireless, 8, 4, 256, 512, 512}, {wireless, 0, 3, 256, 1365, 1365},
		{wireless, 1, 0, 65534, 4096, 65534}, {wireless, 16, 0, api.Infinity, 256, api.Infinity}, {timedWired, 3, 0, 96, 100, 96}, {timedWireless, 16, 0, 256, 256, 256},
	} {
		x := New(1, faces()...)
		for s := range c.multi {
			must(t, x.Hello(0, c.i, who(1), hello(uint16(s), 400, 1)))
		}
		for s := range c.uni {
			must(t, x.Hello(0, c.i, who(1), unicast(uint16(s)+1000, 400)))
		}
		if got := x.Cost(c.i, who(1)); got != api.Infinity { // it has not said yet that it hears this router
			t.Errorf("%v: Cost without an IHU is %d", c, got)
		}
		must(t, x.Ihu(0, c.i, who(1), ihu(c.tx, 1200)))
		if rx, all := x.Rx(c.i, who(1)), x.Cost(c.i, who(1)); rx != c.rx || all != c.all {
			t.Errorf("%v: Rx %d, Cost %d", c, rx, all)
		}
	}
}

// Of who is not there, or there on another interface, or of no interface.
func TestRxAndCostOfNobody(t *testing.T) { // P13.5
	x := New(9, faces()...)
	greet(t, x, 0, wireless, 1, 400, 3)
	must(t, x.Ihu(0, wireless, who(1), ihu(96, 1200)))
	for i := -1; i <= ifs; i++ {
		for n := range byte(3) {
			some := i == wireless && n == 1
			if rx, all := x.Rx(i, who(n)), x.Cost(i, who(n)); (rx == api.Infinity) == some || (all == api.Infinity) == some {
				t.Errorf("%d, %d: %d, %d", i, n, rx, all)
			}
		}
	}
	for _, i := range []int{math.MinInt, math.MaxInt} {
		if x.Rx(i, who(1)) != api.Infinity || x.Cost(i, who(1)) != api.Infinity {
			t.Error(i)
		}
	}
}

func TestCostWithRtt(t *testing.T) { // P13.5
	for _, c := range []struct {
		i          int
		hellos     int
		tx         uint16
		time       uint32
		rx, all    uint16
		without    uint16 // what it costs ahead of the sample
		afterwards uint16 // and when Tx has run out
	}{
		{timedWired, 3, 96, 0, 100, 96, 96, api.Infinity}, {timedWired, 3, 96, 10, 100, 96, 96, api.Infinity}, {timedWired, 3, 96, 12, 100, 97, 96, api.Infinity}, {timedWired, 3, 96, 60, 100, 121, 96, api.Infinity}, {timedWired, 3, 96, 109, 100, 145, 96, api.Infinity}, {timedWired, 3, 96, 110, 100, 146, 96, api.Infinity}, {timedWired, 3, 96, 9000, 100, 146, 96, api.Infinity},
		{timedWired, 3, 65500, 9000, 100, api.Infinity, 65500, api.Infinity}, {timedWired, 3, 65484, 9000, 100, 65534, 65484, api.Infinity}, {timedWired, 3, 65485, 9000, 100, api.Infinity, 65485, api.Infinity}, {timedWired, 3, api.Infinity, 60, 100, api.Infinity, api.Infinity, api.Infinity}, {timedWired, 1, 96, 60, api.Infinity, api.Infinity, api.Infinity, api.Infinity},
		{timedWireless, 16, 256, 60, 256, 281, 256, api.Infinity}, {timedWireless, 8, 512, 110, 512, 1074, 1024, api.Infinity}, {timedWireless, 1, 65534, 110, 4096, api.Infinity, 65534, api.Infinity},
		{wired, 3, 96, 9000, 96, 96, 96, api.Infinity}, {wireless, 16, 256, 9000, 256, 256, 256, api.Infinity}, // no times are asked for
	} {
		x := New(1, faces()...)
		for s := range c.hellos {
			must(t, x.Hello(100, c.i, who(1), hello(uint16(s), 0, 7000)))
		}
		must(t, x.Ihu(100, c.i, who(1), ihu(c.tx, 1)))
		if got := x.Cost(c.i, who(1)); got != c.without {
			t.Errorf("%v: %d without a sample", c, got)
		}
		must(t, x.Ihu(100, c.i, who(1), ihu(c.tx, 1, 100000-c.time, 7000)))
		if rx, all := x.Rx(c.i, who(1)), x.Cost(c.i, who(1)); rx != c.rx || all != c.all {
			t.Errorf("%v: Rx %d, Cost %d", c, rx, all)
		}
		stays(t, x, 135)
		if rx, all := x.Rx(c.i, who(1)), x.Cost(c.i, who(1)); rx != c.rx || all != c.afterwards {
			t.Errorf("%v: Rx %d, Cost %d, behind Tx", c, rx, all)
		}
	}
}

// What hearing costs hangs on the interface on which it is heard.
func TestRxByInterface(t *testing.T) { // P13.1, P13.5
	x := New(9, api.IfConf{Kind: api.Wired, Cost: 1}, api.IfConf{Kind: api.Wired, Cost: 65534}, api.IfConf{Kind: api.Wireless, Cost: 16}, api.IfConf{Kind: 7, Cost: 5}, api.IfConf{Kind: -1, Cost: 5})
	for i, want := range []uint16{1, 65534, 64, api.Infinity, api.Infinity} {
		greet(t, x, 0, i, 1, 400, 4)
		if got := x.Rx(i, who(1)); got != want {
			t.Errorf("interface %d: %d, want %d", i, got, want)
		}
	}
}

func TestGet(t *testing.T) { // P13.6
	x := New(9, faces()...)
	greet(t, x, 0, wired, 1, 0, 1)
	greet(t, x, 0, wireless, 1, 0, 2)
	greet(t, x, 0, wireless, 2, 0, 3)
	for _, c := range []struct {
		i    int
		n    byte
		bits uint16
	}{{wired, 1, 0x8000}, {wireless, 1, 0xc000}, {wireless, 2, 0xe000}, {wired, 2, 0}, {timedWired, 1, 0}, {wired, 0, 0}, {-1, 1, 0}, {ifs, 1, 0}, {math.MinInt, 1, 0}, {math.MaxInt, 1, 0}} {
		n, ok := x.Get(c.i, who(c.n))
		if ok != (c.bits != 0) || n.Multi.Bits != c.bits || !ok && n != (api.Neighbour{}) || ok && (n.If != c.i || n.Addr != who(c.n)) {
			t.Errorf("%v: %v, %v", c, n, ok)
		}
	}
	if _, ok := x.Get(wired, api.Addr{15: 1}); ok {
		t.Error("another address")
	}
}

func TestListsOrder(t *testing.T) { // P13.6
	addrs := []api.Addr{{}, {15: 1}, {15: 2}, {15: 255}, {14: 1}, {10: 255, 11: 255, 12: 10, 15: 1}, {7: 1}, {0: 1}, {0: 127, 1: 255}, {0: 128}, {0: 254, 1: 128}, {0: 254, 1: 128, 15: 1}, {0: 255, 15: 255}}
	var want []api.Neighbour
	for i := range ifs {
		for _, a := range addrs {
			want = append(want, api.Neighbour{If: i, Addr: a, Multi: bits(0x8000, 6), Tx: api.Infinity})
		}
	}
	for _, step := range []int{1, 5, 7, 11, len(want) - 1} { // each of them has no part in common with len(want)
		x := New(len(want), faces()...)
		for k := range want {
			n := want[k*step%len(want)]
			must(t, x.Hello(0, n.If, n.Addr, hello(5, 0)))
		}
		holds(t, x, want...)
	}
	for k := range addrs[1:] {
		if addr.Compare(addrs[k], addrs[k+1]) != -1 {
			t.Error(k)
		}
	}
}

func TestDrop(t *testing.T) { // P13.6
	for _, c := range []struct {
		drop []int
		n    int
		left []api.Neighbour
	}{
		{nil, 0, []api.Neighbour{fresh(0, 1), fresh(0, 2), fresh(1, 1), fresh(3, 1), fresh(3, 2), fresh(3, 3)}},
		{[]int{0}, 2, []api.Neighbour{fresh(1, 1), fresh(3, 1), fresh(3, 2), fresh(3, 3)}},
		{[]int{1}, 1, []api.Neighbour{fresh(0, 1), fresh(0, 2), fresh(3, 1), fresh(3, 2), fresh(3, 3)}},
		{[]int{2}, 0, []api.Neighbour{fresh(0, 1), fresh(0, 2), fresh(1, 1), fresh(3, 1), fresh(3, 2), fresh(3, 3)}},
		{[]int{3}, 3, []api.Neighbour{fresh(0, 1), fresh(0, 2), fresh(1, 1)}},
		{[]int{3, 0}, 5, []api.Neighbour{fresh(1, 1)}},
		{[]int{0, 0}, 2, []api.Neighbour{fresh(1, 1), fresh(3, 1), fresh(3, 2), fresh(3, 3)}},
		{[]int{1, 0, 1, 2, 1}, 3, []api.Neighbour{fresh(3, 1), fresh(3, 2), fresh(3, 3)}},
		{[]int{0, 1, 2, 3}, 6, nil},
		{[]int{-1, ifs, math.MinInt, math.MaxInt}, 0, []api.Neighbour{fresh(0, 1), fresh(0, 2), fresh(1, 1), fresh(3, 1), fresh(3, 2), fresh(3, 3)}},
		{[]int{-1, 1, ifs}, 1, []api.Neighbour{fresh(0, 1), fresh(0, 2), fresh(3, 1), fresh(3, 2), fresh(3, 3)}},
	} {
		x := New(9, faces()...)
		for _, n := range []api.Neighbour{fresh(0, 1), fresh(0, 2), fresh(1, 1), fresh(3, 1), fresh(3, 2), fresh(3, 3)} {
			must(t, x.Hello(0, n.If, n.Addr, hello(5, 0)))
		}
		if got := x.Drop(c.drop...); got != c.n {
			t.Errorf("Drop(%v) = %d, want %d", c.drop, got, c.n)
		}
		holds(t, x, c.left...)
		if got := x.Drop(c.drop...); got != 0 {
			t.Errorf("Drop(%v) once more = %d", c.drop, got)
		}
		holds(t, x, c.left...)
	}
}

func TestNil(t *testing.T) { // P13.6
	var x *Table
	for _, i := range []int{math.MinInt, -1, 0, 1, math.MaxInt} {
		for _, h := range []api.Tlv{{}, hello(5, 400, 1), ihu(96, 1200, 1, 2)} {
			if e := x.Hello(0, i, who(1), h); e != api.ErrNone {
				t.Errorf("Hello: %d", e)
			}
			if e := x.Ihu(0, i, who(1), h); e != api.ErrNone {
				t.Errorf("Ihu: %d", e)
			}
		}
		if n, ok := x.Get(i, who(1)); n != (api.Neighbour{}) || ok {
			t.Error("Get:", n, ok)
		}
		if x.Rx(i, who(1)) != api.Infinity || x.Cost(i, who(1)) != api.Infinity {
			t.Error("Rx, Cost:", x.Rx(i, who(1)), x.Cost(i, who(1)))
		}
		if n := x.Drop(i); n != 0 {
			t.Error("Drop:", n)
		}
		if gone := x.Tick(i); len(gone) != 0 {
			t.Error("Tick:", gone)
		}
	}
	rests(t, x)
	if len(x.List()) != 0 || x.Drop() != 0 {
		t.Error("List, Drop")
	}
}

// Behind 18 gaps a neighbour of whom nothing came since is gone, whatever came of it ahead; behind 16 it may be there.
func TestSilence(t *testing.T) { // P13.7
	for _, interval := range []uint16{1, 2, 3, 400, 65535} {
		gap := int(interval) * 10
		for heard := 1; heard <= 20; heard++ {
			for _, begin := range []int{0, 1, 12345, latest} {
				x := New(1, faces()...)
				for s := range heard {
					h := hello(uint16(s), interval)
					h.Unicast = s%3 == 1
					must(t, x.Hello(begin, wired, who(1), h))
				}
				must(t, x.Ihu(begin, wired, who(1), ihu(96, 65535)))
				stays(t, x, begin+16*gap)
				gone := x.Tick(begin + 18*gap)
				if len(gone) != 1 || gone[0].Addr != who(1) || len(x.List()) != 0 {
					t.Fatalf("a gap of %d, %d heard: %v", gap, heard, x.List())
				}
				rests(t, x)
			}
		}
	}
}

// Gaps that are not alike: it is the greater one that counts.
func TestSilenceOfUnlikeGaps(t *testing.T) { // P13.7
	for _, c := range [][2]uint16{{100, 400}, {400, 100}} {
		x := New(1, faces()...)
		must(t, x.Hello(0, wired, who(1), hello(1, c[0])))
		must(t, x.Hello(0, wired, who(1), unicast(1, c[1])))
		stays(t, x, 18*1000)
		if gone := x.Tick(18 * 4000); len(gone) != 1 {
			t.Error(c, x.List())
		}
	}
}

// However often Tick is called between, it comes to the same.
func TestTickOftenOrOnce(t *testing.T) { // P13.4
	for _, step := range []int{1, 7, 100, 333, 1000} {
		often, once := New(9, faces()...), New(9, faces()...)
		for _, x := range []*Table{often, once} {
			greet(t, x, 0, wired, 1, 11, 16)
			must(t, x.Hello(0, wired, who(1), unicast(5, 3)))
			must(t, x.Ihu(0, wired, who(1), ihu(96, 17)))
		}
		for now := 0; now <= 1500; now += step {
			stays(t, often, now)
		}
		stays(t, often, 1500)
		stays(t, once, 1500)
		holds(t, often, once.List()...)
	}
}

// What a call is handed is not changed and not kept; what it answers stays as it is.
func TestNothingIsShared(t *testing.T) { // P13.1 to P13.6, rule 3
	conf := append(faces(), api.IfConf{Name: "spare"})[:ifs]
	ahead := slices.Clone(conf[:ifs+1])
	x := New(9, conf...)
	if !slices.Equal(conf[:ifs+1], ahead) {
		t.Fatal("New changed its interfaces")
	}
	stamps := []uint32{50000, 1, 2}[:1]
	must(t, x.Hello(10, timedWired, who(1), hello(5, 400, stamps...)))
	must(t, x.Hello(10, timedWired, who(1), hello(6, 400, stamps...)))
	two := []uint32{9900, 49960, 3}[:2]
	must(t, x.Ihu(10, timedWired, who(1), ihu(96, 1200, two...)))
	if !slices.Equal(stamps[:3], []uint32{50000, 1, 2}) || !slices.Equal(two[:3], []uint32{9900, 49960, 3}) {
		t.Fatal("Stamps are changed")
	}
	clear(stamps)
	clear(two)
	clear(conf) // kinds, costs and times are those that were handed over
	n, _ := x.Get(timedWired, who(1))
	if n.Sent != 50000 || n.Rtt != 60 || x.Rx(timedWired, who(1)) != 100 || x.Cost(timedWired, who(1)) != 121 {
		t.Fatalf("%v: %d, %d", n, x.Rx(timedWired, who(1)), x.Cost(timedWired, who(1)))
	}
	drop := []int{wired, wired, timedWireless, 77}[:3]
	x.Drop(drop...)
	if !slices.Equal(drop[:4], []int{wired, wired, timedWireless, 77}) {
		t.Fatal("Drop changed its interfaces")
	}
}

func TestAnswersStay(t *testing.T) { // P13.4, P13.6, rule 3
	x := New(9, faces()...)
	must(t, x.Hello(0, wired, who(1), hello(5, 1)))
	must(t, x.Hello(0, wired, who(2), hello(5, 400)))
	first, second := x.List(), x.List()
	told := slices.Clone(first)
	got, _ := x.Get(wired, who(2))
	gone := x.Tick(1000)
	left := slices.Clone(gone)
	must(t, x.Hello(1000, wired, who(2), hello(6, 100)))
	must(t, x.Hello(1000, wired, who(1), hello(6, 100)))
	x.Tick(1000000)
	if !slices.Equal(first, told) || !slices.Equal(second, told) || got != told[1] || !slices.Equal(gone, left) {
		t.Fatal("what was answered has changed")
	}
	// And to change an answer changes nothing else.
	must(t, x.Hello(0, wired, who(1), hello(5, 400)))
	must(t, x.Hello(0, wired, who(2), hello(5, 400)))
	want := x.List()
	mine := x.List()
	clear(mine[:cap(mine)])
	clear(first[:cap(first)])
	clear(gone[:cap(gone)])
	if !slices.Equal(second, told) {
		t.Fatal("two answers share")
	}
	holds(t, x, want...)
}

// Whatever they are handed, the calls end.
func TestAnyNumbers(t *testing.T) { // rule 1
	odd := []int{math.MinInt, math.MinInt + 1, -latest, -1, 0, 1, latest, math.MaxInt - 1, math.MaxInt}
	for _, c := range odd {
		for _, d := range odd {
			x := New(9, api.IfConf{Kind: api.Wired, Cost: c, Rtt: api.Rtt{On: true, Min: c, Max: d, Cost: d, Decay: c}}, api.IfConf{Kind: d, Cost: d, Rtt: api.Rtt{On: true, Min: d, Max: c, Cost: c, Decay: d}})
			for _, now := range odd {
				for i := range 2 {
					x.Hello(now, i, who(1), hello(uint16(now), uint16(d), uint32(c)))
					x.Hello(now, i, who(1), unicast(uint16(now), 65535, uint32(c)))
					x.Ihu(now, i, who(1), ihu(uint16(c), 65535, uint32(d), uint32(now)))
					x.Rx(i, who(1))
					x.Cost(i, who(1))
				}
				x.Next()
				x.Tick(d)
				x.Tick(now)
			}
		}
	}
}

// What a table reckons is what link does, of any history.
func TestRxIsLinks(t *testing.T) { // P13.5
	x := New(1, faces()...)
	for s := range 200 {
		if s%7 != 3 && s%11 < 8 {
			must(t, x.Hello(s, wireless, who(1), hello(uint16(s), 400)))
		}
		if s%5 != 0 {
			must(t, x.Hello(s, wireless, who(1), unicast(uint16(s), 400)))
		}
		if n, ok := x.Get(wireless, who(1)); ok && x.Rx(wireless, who(1)) != link.Rx(api.Wireless, 256, n.Multi, n.Uni) {
			t.Fatal(s)
		}
	}
}
