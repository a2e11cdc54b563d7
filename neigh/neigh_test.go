package neigh

import (
	"math"
	"slices"
	"testing"

	"culvert/api"
	"culvert/link"
	"culvert/rtt"
)

const latest = 1 << 40 // of times

// The interfaces of the tests, by their places.
const (
	wired = iota
	wireless
	timedWired
	timedWireless
	ifs
)

// steep is a way to smooth and to cost by round trip times.
var steep = api.Rtt{On: true, Min: 10, Max: 110, Cost: 50, Decay: 64}

// faces are an interface of each kind without times, and one of each with them.
func faces() []api.IfConf {
	return []api.IfConf{
		wired:         {Name: "e0", Kind: api.Wired, Cost: 96},
		wireless:      {Name: "w0", Kind: api.Wireless, Cost: 256},
		timedWired:    {Name: "e1", Kind: api.Wired, Cost: 100, Rtt: steep},
		timedWireless: {Name: "w1", Kind: api.Wireless, Cost: 256, Rtt: steep},
	}
}

// who is the address of somebody.
func who(n byte) api.Addr {
	return api.Addr{0: 0xfe, 1: 0x80, 15: n}
}

func hello(seqno, interval uint16, stamps ...uint32) api.Tlv {
	return api.Tlv{Type: api.TypeHello, Seqno: seqno, Interval: interval, Stamps: stamps}
}

func unicast(seqno, interval uint16, stamps ...uint32) api.Tlv {
	h := hello(seqno, interval, stamps...)
	h.Unicast = true
	return h
}

func ihu(rxcost, interval uint16, stamps ...uint32) api.Tlv {
	return api.Tlv{Type: api.TypeIhu, Rxcost: rxcost, Interval: interval, Stamps: stamps}
}

// must fails unless a call was taken.
func must(t *testing.T, e api.Errno) {
	t.Helper()
	if e != api.OK {
		t.Fatalf("refused: %d", e)
	}
}

// holds fails unless x has just these neighbours, by every call that asks for one.
func holds(t *testing.T, x *Table, want ...api.Neighbour) {
	t.Helper()
	if got := x.List(); !slices.Equal(got, want) {
		t.Fatalf("List() = %v, want %v", got, want)
	}
	for _, n := range want {
		if got, ok := x.Get(n.If, n.Addr); got != n || !ok {
			t.Fatalf("Get(%d, %v) = %v, %v, want %v", n.If, n.Addr, got, ok, n)
		}
	}
}

// refuses fails unless a call answers that error, and leaves all as it was.
func refuses(t *testing.T, x *Table, want api.Errno, call func() api.Errno) {
	t.Helper()
	ahead := x.List()
	at, some := x.Next()
	if got := call(); got != want {
		t.Fatalf("answered %d, want %d", got, want)
	}
	holds(t, x, ahead...)
	if a, s := x.Next(); a != at || s != some {
		t.Fatalf("Next() = %d, %v, was %d, %v", a, s, at, some)
	}
}

// comes fails unless that is the first time at which Tick would change something.
func comes(t *testing.T, x *Table, want int) {
	t.Helper()
	if at, ok := x.Next(); at != want || !ok {
		t.Fatalf("Next() = %d, %v, want %d", at, ok, want)
	}
}

// rests fails if Tick would ever change something.
func rests(t *testing.T, x *Table) {
	t.Helper()
	if at, ok := x.Next(); at != 0 || ok {
		t.Fatalf("Next() = %d, %v, want 0, false", at, ok)
	}
}

// bits are histories behind hellos: their Bits, and the seqno that comes next.
func bits(b, next uint16) api.History {
	return api.History{Bits: b, Next: next, Known: true}
}

// fresh is a neighbour of which one hello came, with seqno 5 and no Interval.
func fresh(i int, n byte) api.Neighbour {
	return api.Neighbour{If: i, Addr: who(n), Multi: bits(0x8000, 6), Tx: api.Infinity}
}

func TestANewTableHasNoNeighbours(t *testing.T) { // P13.1
	for _, x := range []*Table{New(0), New(-1), New(1), New(1, faces()...), New(4096, faces()...), New(math.MaxInt, faces()...), New(math.MinInt, faces()...)} {
		if x == nil {
			t.Fatal("New is nil")
		}
		holds(t, x)
		rests(t, x)
		if n, ok := x.Get(0, who(1)); n != (api.Neighbour{}) || ok {
			t.Error(n, ok)
		}
		if x.Rx(0, who(1)) != api.Infinity || x.Cost(0, who(1)) != api.Infinity || len(x.Tick(latest)) != 0 || x.Drop(0, 1) != 0 {
			t.Error("somebody is there")
		}
	}
}

func TestRoom(t *testing.T) { // P13.1, P13.8
	for _, most := range []int{math.MinInt, -1, 0, 1, 2, 3, 16, 300} {
		x := New(most, faces()...)
		there := 0
		for n := range 400 {
			from := api.Addr{14: byte(n >> 8), 15: byte(n)}
			e := x.Hello(0, n%ifs, from, hello(5, 400))
			switch {
			case n < most && e != api.OK, n >= most && e != api.ErrMany:
				t.Fatalf("room for %d: the one at place %d: %d", most, n, e)
			case e == api.OK:
				there++
			}
			if _, ok := x.Get(n%ifs, from); ok != (e == api.OK) || len(x.List()) != there {
				t.Fatalf("room for %d: %d are there, want %d", most, len(x.List()), there)
			}
		}
	}
}

func TestATableWithoutInterfaces(t *testing.T) { // P13.1
	x := New(5)
	for _, i := range []int{math.MinInt, -1, 0, 1, math.MaxInt} {
		refuses(t, x, api.ErrArg, func() api.Errno { return x.Hello(0, i, who(1), hello(5, 400)) })
		refuses(t, x, api.ErrArg, func() api.Errno { return x.Ihu(0, i, who(1), ihu(96, 1200)) })
	}
}

func TestTwoTablesAreApart(t *testing.T) { // P13.1
	x, y := New(1, faces()...), New(1, faces()...)
	must(t, x.Hello(0, wired, who(1), hello(5, 0)))
	holds(t, y)
	must(t, y.Hello(0, wireless, who(2), hello(5, 0)))
	holds(t, x, fresh(wired, 1))
	holds(t, y, fresh(wireless, 2))
}

// Of an interface its Kind, Cost and Rtt have a part, and nothing else.
func TestWhatOfAnInterfaceHasAPart(t *testing.T) { // P13.1
	bare := faces()
	rich := faces()
	for i := range rich {
		rich[i] = api.IfConf{Name: "another", Kind: rich[i].Kind, Cost: rich[i].Cost, Hello: 1, Update: 2, Mtu: 3, Addr: who(7), Addr4: who(8), Rtt: rich[i].Rtt}
	}
	x, y := New(9, bare...), New(9, rich...)
	for i := range ifs {
		for s := range 3 {
			for _, z := range []*Table{x, y} {
				must(t, z.Hello(s, i, who(7), hello(uint16(s), 400, 0)))
				must(t, z.Ihu(s, i, who(7), ihu(96, 1200, 0, 0)))
			}
		}
		if x.Rx(i, who(7)) != y.Rx(i, who(7)) || x.Cost(i, who(7)) != y.Cost(i, who(7)) {
			t.Errorf("interface %d", i)
		}
	}
	holds(t, y, x.List()...)
}

func TestHelloMakesANeighbour(t *testing.T) { // P13.2
	x := New(9, faces()...)
	must(t, x.Hello(7000, wireless, who(3), hello(5, 400)))
	holds(t, x, api.Neighbour{If: wireless, Addr: who(3), Multi: bits(0x8000, 6), MultiGap: 4000, MultiAt: 13000, Tx: api.Infinity})
	must(t, x.Hello(8000, wired, who(4), unicast(9, 200)))
	holds(t, x,
		api.Neighbour{If: wired, Addr: who(4), Uni: bits(0x8000, 10), UniGap: 2000, UniAt: 11000, Tx: api.Infinity},
		api.Neighbour{If: wireless, Addr: who(3), Multi: bits(0x8000, 6), MultiGap: 4000, MultiAt: 13000, Tx: api.Infinity})
}

func TestHelloOfEachInterval(t *testing.T) { // P13.2
	for _, c := range []struct {
		now      int
		interval uint16
		gap, at  int
	}{
		{0, 0, 0, 0}, {5000, 0, 0, 0}, {latest, 0, 0, 0}, {0, 1, 10, 15}, {0, 2, 20, 30}, {0, 3, 30, 45}, {5000, 1, 10, 5015}, {5001, 400, 4000, 11001}, {7, 65534, 655340, 983017}, {7, 65535, 655350, 983032}, {latest, 65535, 655350, latest + 983025},
	} {
		x := New(1, faces()...)
		must(t, x.Hello(c.now, wired, who(1), hello(5, c.interval)))
		multi := api.Neighbour{Addr: who(1), Multi: bits(0x8000, 6), MultiGap: c.gap, MultiAt: c.at, Tx: api.Infinity}
		holds(t, x, multi)
		// A later one, and one without an Interval.
		must(t, x.Hello(c.now+1, wired, who(1), hello(6, 50)))
		multi.Multi, multi.MultiGap, multi.MultiAt = bits(0xc000, 7), 500, c.now+751
		holds(t, x, multi)
		must(t, x.Hello(c.now+2, wired, who(1), hello(7, 0)))
		multi.Multi, multi.MultiGap, multi.MultiAt = bits(0xe000, 8), 0, 0
		holds(t, x, multi)

		x = New(1, faces()...)
		must(t, x.Hello(c.now, wired, who(1), unicast(5, c.interval)))
		uni := api.Neighbour{Addr: who(1), Uni: bits(0x8000, 6), UniGap: c.gap, UniAt: c.at, Tx: api.Infinity}
		holds(t, x, uni)
		must(t, x.Hello(c.now+1, wired, who(1), unicast(6, 50)))
		uni.Uni, uni.UniGap, uni.UniAt = bits(0xc000, 7), 500, c.now+751
		holds(t, x, uni)
		must(t, x.Hello(c.now+2, wired, who(1), unicast(7, 0)))
		uni.Uni, uni.UniGap, uni.UniAt = bits(0xe000, 8), 0, 0
		holds(t, x, uni)
	}
}

// Hellos to everybody and those to this router alone have seqnos, gaps and times of their own.
func TestHelloUnicastAndNot(t *testing.T) { // P13.2
	x := New(1, faces()...)
	n := api.Neighbour{Addr: who(1), Tx: api.Infinity}
	must(t, x.Hello(1000, wired, who(1), hello(5, 400)))
	n.Multi, n.MultiGap, n.MultiAt = bits(0x8000, 6), 4000, 7000
	holds(t, x, n)
	must(t, x.Hello(1001, wired, who(1), unicast(900, 100)))
	n.Uni, n.UniGap, n.UniAt = bits(0x8000, 901), 1000, 2501
	holds(t, x, n)
	must(t, x.Hello(1002, wired, who(1), hello(7, 300))) // 6 did not come
	n.Multi, n.MultiGap, n.MultiAt = bits(0xa000, 8), 3000, 5502
	holds(t, x, n)
	must(t, x.Hello(1003, wired, who(1), unicast(901, 0)))
	n.Uni, n.UniGap, n.UniAt = bits(0xc000, 902), 0, 0
	holds(t, x, n)
	must(t, x.Hello(1004, wired, who(1), hello(6, 300))) // it comes late
	n.Multi, n.MultiAt = bits(0xc000, 7), 5504
	holds(t, x, n)
	must(t, x.Hello(1005, wired, who(1), hello(20000, 300))) // from far away: anew
	n.Multi, n.MultiAt = bits(0x8000, 20001), 5505
	holds(t, x, n)
}

// The histories are link's, wherever the seqnos stand.
func TestHelloHearsAsLinkDoes(t *testing.T) { // P13.2
	x := New(1, faces()...)
	var multi, uni api.History
	for k, s := range []uint16{65530, 65531, 65535, 0, 1, 17, 34, 35, 20, 19, 2, 52, 52, 52, 40000, 7232, 7231} {
		multi, uni = link.Hear(multi, s), link.Hear(uni, s*3)
		must(t, x.Hello(k, wired, who(1), hello(s, 400)))
		must(t, x.Hello(k, wired, who(1), unicast(s*3, 400)))
		if n, _ := x.Get(wired, who(1)); n.Multi != multi || n.Uni != uni {
			t.Fatalf("behind %d: %v, %v, want %v, %v", s, n.Multi, n.Uni, multi, uni)
		}
	}
}

func TestHelloWithAStampAndWithout(t *testing.T) { // P13.2
	for _, u := range []bool{false, true} {
		for i := range ifs { // also where no times are asked for
			x := New(1, faces()...)
			say := func(now int, h api.Tlv) api.Neighbour {
				h.Unicast = u
				must(t, x.Hello(now, i, who(1), h))
				n, _ := x.Get(i, who(1))
				return n
			}
			if n := say(10, hello(5, 400)); n.Sent != 0 || n.Heard != 0 || n.HasSent {
				t.Fatalf("without: %v", n)
			}
			if n := say(20, hello(6, 400, 77)); n.Sent != 77 || n.Heard != 20 || !n.HasSent {
				t.Fatalf("with: %v", n)
			}
			if n := say(30, hello(7, 400)); n.Sent != 77 || n.Heard != 20 || !n.HasSent {
				t.Fatalf("without, behind one: %v", n)
			}
			if n := say(40, hello(8, 0, math.MaxUint32)); n.Sent != math.MaxUint32 || n.Heard != 40 || !n.HasSent {
				t.Fatalf("the greatest: %v", n)
			}
			if n := say(50, hello(9, 400, 0)); n.Sent != 0 || n.Heard != 50 || !n.HasSent {
				t.Fatalf("one of 0: %v", n)
			}
			if n := say(60, hello(10, 400, 3, 4)); n.Sent != 3 || n.Heard != 60 || !n.HasSent || n.HasRtt || n.Rtt != 0 {
				t.Fatalf("with one too many: %v", n)
			}
		}
	}
	x := New(1, faces()...)
	must(t, x.Hello(0, wired, who(1), hello(5, 400, 0)))
	if n, _ := x.Get(wired, who(1)); !n.HasSent || n.Heard != 0 {
		t.Error("a stamp of 0 at 0 is one")
	}
}

// A hello leaves what the neighbour said, and the times, as they are.
func TestHelloLeavesTheRest(t *testing.T) { // P13.2
	x := New(1, faces()...)
	must(t, x.Hello(1, timedWired, who(1), hello(5, 400, 1000)))
	must(t, x.Ihu(1, timedWired, who(1), ihu(96, 1200, 900, 990)))
	n, _ := x.Get(timedWired, who(1))
	if n.Tx != 96 || n.TxAt != 42001 || n.Rtt != 90 || !n.HasRtt {
		t.Fatal(n)
	}
	must(t, x.Hello(2, timedWired, who(1), hello(6, 400, 5)))
	n.Multi, n.MultiAt, n.Sent, n.Heard = bits(0xc000, 7), 6002, 5, 2
	holds(t, x, n)
}

// Fields of a Tlv that are none of a hello's have no part, nor those that are none of an IHU's.
func TestOtherFieldsHaveNoPart(t *testing.T) { // P13.2, P13.3
	x, y := New(1, faces()...), New(1, faces()...)
	h, u := hello(5, 400, 1000), ihu(96, 1200, 900, 990)
	must(t, x.Hello(1, timedWired, who(1), h))
	must(t, x.Ihu(1, timedWired, who(1), u))
	h.Nonce, h.Rxcost, h.Metric, h.Hops, h.All, h.Id, h.Addr, h.Pair = 1, 2, 3, 4, true, api.RouterId{5}, who(6), api.Pair{Dst: api.Prefix{Len: 7}}
	u.Nonce, u.Seqno, u.Metric, u.Hops, u.Unicast, u.All, u.Id, u.Addr, u.Pair = 1, 2, 3, 4, true, true, api.RouterId{5}, who(6), api.Pair{Dst: api.Prefix{Len: 7}}
	must(t, y.Hello(1, timedWired, who(1), h))
	must(t, y.Ihu(1, timedWired, who(1), u))
	holds(t, y, x.List()...)
}

func TestHelloRefused(t *testing.T) { // P13.2
	x := New(2, faces()...)
	must(t, x.Hello(0, wired, who(1), hello(5, 0)))
	must(t, x.Hello(0, timedWireless, who(1), hello(5, 0)))
	for _, i := range []int{math.MinInt, -1, ifs, ifs + 1, math.MaxInt} {
		refuses(t, x, api.ErrArg, func() api.Errno { return x.Hello(1, i, who(1), hello(6, 400, 7)) })
		refuses(t, x, api.ErrArg, func() api.Errno { return x.Hello(1, i, who(9), hello(6, 400, 7)) }) // and not ErrMany
	}
	for k := range 256 {
		if k == api.TypeHello {
			continue
		}
		for _, n := range []byte{1, 9} {
			h := hello(6, 400, 7)
			h.Type = uint8(k)
			refuses(t, x, api.ErrArg, func() api.Errno { return x.Hello(1, wired, who(n), h) })
		}
	}
	for i := range ifs {
		refuses(t, x, api.ErrMany, func() api.Errno { return x.Hello(1, i, who(9), hello(6, 400, 7)) })
		refuses(t, x, api.ErrMany, func() api.Errno { return x.Hello(1, i, who(9), unicast(6, 400, 7)) })
	}
	refuses(t, x, api.ErrMany, func() api.Errno { return x.Hello(1, wireless, who(1), hello(6, 400)) }) // known elsewhere alone
	holds(t, x, fresh(wired, 1), fresh(timedWireless, 1))
	// Those that are there need no room.
	must(t, x.Hello(1, wired, who(1), hello(6, 0)))
	must(t, x.Hello(1, timedWireless, who(1), unicast(6, 0)))
	if len(x.List()) != 2 {
		t.Error(x.List())
	}
}

// Room that a neighbour leaves is there for another one.
func TestRoomAgain(t *testing.T) { // P13.2, P13.8
	x := New(1, faces()...)
	must(t, x.Hello(0, wired, who(1), hello(5, 400)))
	refuses(t, x, api.ErrMany, func() api.Errno { return x.Hello(0, wired, who(2), hello(5, 0)) })
	if x.Drop(wired) != 1 {
		t.Fatal("it is still there")
	}
	must(t, x.Hello(0, wired, who(2), hello(5, 1)))
	refuses(t, x, api.ErrMany, func() api.Errno { return x.Hello(0, wired, who(1), hello(5, 400)) })
	if gone := x.Tick(1000); len(gone) != 1 {
		t.Fatal(gone)
	}
	must(t, x.Hello(1000, wired, who(3), hello(5, 0)))
	holds(t, x, fresh(wired, 3))
}

// Who comes again begins anew.
func TestBackAgain(t *testing.T) { // P13.2
	x := New(1, faces()...)
	must(t, x.Hello(0, timedWired, who(1), hello(5, 1, 7)))
	must(t, x.Hello(0, timedWired, who(1), unicast(5, 1, 7)))
	must(t, x.Ihu(0, timedWired, who(1), ihu(96, 60000, 0, 7)))
	if gone := x.Tick(1000); len(gone) != 1 || !gone[0].HasRtt || gone[0].Tx != 96 {
		t.Fatal(gone)
	}
	must(t, x.Hello(1000, timedWired, who(1), hello(5, 0)))
	holds(t, x, fresh(timedWired, 1))
	x.Drop(timedWired)
	must(t, x.Hello(1000, timedWired, who(1), hello(5, 0)))
	holds(t, x, fresh(timedWired, 1))
}

func TestIhu(t *testing.T) { // P13.3
	for _, c := range []struct {
		now              int
		rxcost, interval uint16
		at               int
	}{
		{0, 96, 0, 0}, {5000, 96, 0, 5000}, {5000, 0, 1, 5035}, {5000, 1, 2, 5070}, {0, 256, 1200, 42000}, {8000, 96, 1200, 50000}, {9, 65534, 65535, 2293734}, {9, api.Infinity, 1200, 42009}, {latest, 5, 65535, latest + 2293725},
	} {
		for i := range ifs {
			x := New(1, faces()...)
			must(t, x.Hello(0, i, who(1), hello(5, 0)))
			must(t, x.Ihu(c.now, i, who(1), ihu(c.rxcost, c.interval)))
			n := fresh(i, 1)
			n.Tx, n.TxAt = c.rxcost, c.at
			holds(t, x, n)
			must(t, x.Ihu(c.now+1, i, who(1), ihu(7, 10))) // the last one holds, also where it is shorter
			n.Tx, n.TxAt = 7, c.now+351
			holds(t, x, n)
		}
	}
}

func TestIhuRefused(t *testing.T) { // P13.3
	x := New(2, faces()...)
	must(t, x.Hello(0, wired, who(1), hello(5, 0)))
	for _, i := range []int{math.MinInt, -1, ifs, ifs + 1, math.MaxInt} {
		refuses(t, x, api.ErrArg, func() api.Errno { return x.Ihu(1, i, who(1), ihu(96, 1200)) })
		refuses(t, x, api.ErrArg, func() api.Errno { return x.Ihu(1, i, who(9), ihu(96, 1200)) }) // and not ErrNone
	}
	for k := range 256 {
		if k == api.TypeIhu {
			continue
		}
		for _, n := range []byte{1, 9} {
			u := ihu(96, 1200)
			u.Type = uint8(k)
			refuses(t, x, api.ErrArg, func() api.Errno { return x.Ihu(1, wired, who(n), u) })
		}
	}
	for i := range ifs {
		refuses(t, x, api.ErrNone, func() api.Errno { return x.Ihu(1, i, who(9), ihu(96, 1200, 1, 2)) })
	}
	refuses(t, x, api.ErrNone, func() api.Errno { return x.Ihu(1, wireless, who(1), ihu(96, 1200)) }) // heard elsewhere alone
	holds(t, x, fresh(wired, 1))
}

// heardAt is a table with a neighbour whose hello came at now, sent at 50000 by its clock, on an interface with times.
func heardAt(t *testing.T, now int) *Table {
	t.Helper()
	x := New(1, faces()...)
	must(t, x.Hello(now, timedWired, who(1), hello(5, 0, 50000)))
	return x
}

// rttIs fails unless the neighbour of heardAt has that Rtt; -1: it has none.
func rttIs(t *testing.T, x *Table, want int) {
	t.Helper()
	n, there := x.Get(timedWired, who(1))
	if !there || n.HasRtt != (want >= 0) || n.Rtt != max(want, 0) {
		t.Fatalf("%v, %v; want %d", n, there, want)
	}
}

func TestIhuSamples(t *testing.T) { // P13.3
	x := heardAt(t, 10) // 10000 by this router's clock
	must(t, x.Ihu(10, timedWired, who(1), ihu(96, 1200, 9000, 49500)))
	rttIs(t, x, 500) // 1000 and 500 between: the first one is it
	must(t, x.Ihu(10, timedWired, who(1), ihu(96, 1200, 9000, 49900)))
	rttIs(t, x, 600) // 900: of 64 parts
	must(t, x.Hello(20, timedWired, who(1), unicast(6, 0, 60000)))
	must(t, x.Ihu(20, timedWired, who(1), ihu(96, 1200, 19000, 59000)))
	rttIs(t, x, 450) // 0 is a sample
	must(t, x.Ihu(20, timedWired, who(1), ihu(96, 1200, 18999, 60000)))
	rttIs(t, x, 587) // 1001, rounded down
}

// A time of 0 is one: the next sample is blended with it, and does not stand in its place.
func TestIhuSamplesFromZeroOn(t *testing.T) { // P13.3
	x := heardAt(t, 10)
	must(t, x.Ihu(10, timedWired, who(1), ihu(96, 1200, 9000, 49000)))
	rttIs(t, x, 0)
	must(t, x.Ihu(10, timedWired, who(1), ihu(96, 1200, 9000, 50000)))
	rttIs(t, x, 250)
}

// The clocks go round.
func TestIhuSamplesRound(t *testing.T) { // P13.3
	now := 4294968 // 704 by the clock
	if rtt.Clock(now) != 704 {
		t.Fatal(rtt.Clock(now))
	}
	x := New(1, faces()...)
	must(t, x.Hello(now, timedWired, who(1), hello(5, 0, 10)))
	must(t, x.Ihu(now, timedWired, who(1), ihu(96, 1200, math.MaxUint32-295, math.MaxUint32-89)))
	rttIs(t, x, 900) // 1000 and 100
}

func TestIhuWithoutASample(t *testing.T) { // P13.3
	for _, c := range []struct {
		what   string
		now    int
		stamps []uint32
	}{
		{"no stamps", 10, nil}, {"an empty list", 10, []uint32{}}, {"one alone", 10, []uint32{9000}},
		{"a hello one ahead", 11, []uint32{9000, 49500}}, {"one long ago", 4000, []uint32{9000, 49500}}, {"one behind", 9, []uint32{8000, 49500}},
		{"sent ahead of its time", 10, []uint32{10001, 50000}}, {"the neighbour waited longer", 10, []uint32{9000, 48999}}, {"its times run back", 10, []uint32{9000, 50001}}, {"half a round away", 10, []uint32{10000 + 1<<31, 50000}},
	} {
		for _, before := range []bool{false, true} {
			x, want := heardAt(t, 10), -1
			if before {
				must(t, x.Ihu(10, timedWired, who(1), ihu(1, 1, 9000, 49500)))
				want = 500
			}
			must(t, x.Ihu(c.now, timedWired, who(1), ihu(96, 1200, c.stamps...)))
			rttIs(t, x, want)
			if n, _ := x.Get(timedWired, who(1)); n.Tx != 96 || n.TxAt != c.now+42000 || n.Sent != 50000 || n.Heard != 10 || !n.HasSent {
				t.Errorf("%s: %v", c.what, n) // what else it says holds all the same
			}
		}
	}
}

// Without a hello that had a stamp there is no sample, also at 0, which Heard is then.
func TestIhuWithoutAStampedHello(t *testing.T) { // P13.3
	for _, now := range []int{0, 10} {
		x := New(1, faces()...)
		must(t, x.Hello(now, timedWired, who(1), hello(5, 0)))
		must(t, x.Ihu(now, timedWired, who(1), ihu(96, 1200, 0, 0)))
		rttIs(t, x, -1)
	}
	x := New(1, faces()...)
	must(t, x.Hello(0, timedWired, who(1), hello(5, 0, 0)))
	must(t, x.Ihu(0, timedWired, who(1), ihu(96, 1200, 0, 0)))
	rttIs(t, x, 0) // with one there is
}

// A hello without a stamp leaves the older one's, which counts as long as it came at the same time.
func TestIhuBehindAnOlderStamp(t *testing.T) { // P13.3
	x := heardAt(t, 10)
	must(t, x.Hello(10, timedWired, who(1), unicast(6, 0)))
	must(t, x.Ihu(10, timedWired, who(1), ihu(96, 1200, 9000, 49500)))
	rttIs(t, x, 500)
	must(t, x.Hello(11, timedWired, who(1), hello(6, 0)))
	must(t, x.Ihu(11, timedWired, who(1), ihu(96, 1200, 9000, 49900)))
	rttIs(t, x, 500)
}

func TestIhuWhereNoTimesAreAskedFor(t *testing.T) { // P13.3
	off := steep
	off.On = false
	for _, c := range []api.IfConf{{Kind: api.Wired, Cost: 96}, {Kind: api.Wireless, Cost: 256}, {Kind: api.Wired, Cost: 96, Rtt: off}} {
		x := New(1, c)
		must(t, x.Hello(10, 0, who(1), hello(5, 0, 50000)))
		must(t, x.Ihu(10, 0, who(1), ihu(96, 1200, 9000, 49500)))
		holds(t, x, api.Neighbour{Addr: who(1), Multi: bits(0x8000, 6), Tx: 96, TxAt: 42010, Sent: 50000, Heard: 10, HasSent: true})
	}
}

// Each interface has its own way to smooth.
func TestIhuByTheInterfacesRtt(t *testing.T) { // P13.1, P13.3
	slow, quick := steep, steep
	slow.Decay, quick.Decay = 1, 256
	x := New(9, api.IfConf{Rtt: slow}, api.IfConf{}, api.IfConf{Rtt: quick})
	for i, want := range []int{1001, 0, 1500} {
		must(t, x.Hello(10, i, who(1), hello(5, 0, 50000)))
		must(t, x.Ihu(10, i, who(1), ihu(96, 1200, 9000, 50000)))
		must(t, x.Ihu(10, i, who(1), ihu(96, 1200, 8500, 50000)))
		if n, _ := x.Get(i, who(1)); n.Rtt != want || n.HasRtt != (i != 1) {
			t.Errorf("interface %d: %v, want %d", i, n, want)
		}
	}
}
