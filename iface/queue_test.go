package iface

import (
	"math"
	"slices"
	"testing"

	"culvert/api"
	"culvert/packet"
)

var everybody api.Addr

func TestQueueTwiceOnePacket(t *testing.T) { // P14.4, P14.5
	s := started(t)
	must(t, s.Queue(0, everybody, ack(1)))
	must(t, s.Queue(0, everybody, ack(2)))
	waits(t, s, 2, 0, 0)
	flushes(t, s, packed(t, faces()[0], 0, everybody, ack(1), ack(2))...)
	waits(t, s, 0, 0, 0)
	flushes(t, s)
}

func TestQueueOnOneThatIsDown(t *testing.T) { // P14.4
	s := New(faces()...)
	is(t, s.Queue(0, everybody, ack(1)), api.ErrNone)
	is(t, s.Queue(0, everybody), api.ErrNone)
	is(t, s.Queue(0, everybody, api.Tlv{}), api.ErrNone) // ahead of pack's errors
	must(t, s.Up(0))
	waits(t, s, 0)
	must(t, s.Down(0))
	is(t, s.Queue(0, who(5), ack(1)), api.ErrNone)
	must(t, s.Up(0))
	waits(t, s, 0)
	flushes(t, s)
}

func TestQueueOfNone(t *testing.T) { // P14.4
	s := started(t)
	must(t, s.Queue(0, everybody))
	must(t, s.Queue(0, who(5), []api.Tlv{}...))
	waits(t, s, 0)
	flushes(t, s)
	must(t, s.Queue(0, who(5), ack(1)))
	must(t, s.Queue(0, who(5)))
	must(t, s.Queue(0, who(6)))
	waits(t, s, 1)
	flushes(t, s, packed(t, faces()[0], 0, who(5), ack(1))...)
}

func TestQueueRefusesAsPackDoes(t *testing.T) { // P14.4
	v4 := api.Addr{10: 0xff, 11: 0xff, 12: 10, 15: 1}
	long := update(1, api.Addr{0: 0x20, 15: 1}) // with a router and a next hop that is told in full
	long.Pair = api.Pair{Dst: api.Prefix{A: api.Addr{0: 0x20, 15: 1}, Len: 128}, Src: api.Prefix{A: api.Addr{0: 0x20, 15: 2}, Len: 128}}
	for name, c := range map[string]struct {
		l    []api.Tlv
		want api.Errno
	}{
		"a type that is none":      {[]api.Tlv{{}}, api.ErrArg},
		"one among others":         {[]api.Tlv{ack(8), {Type: api.TypeSeqnoReq}, ack(9)}, api.ErrArg},
		"the last one":             {append(acks(8, 30), api.Tlv{Type: 99}), api.ErrArg},
		"a hop of another family":  {[]api.Tlv{ack(8), update(1, v4)}, api.ErrArg},
		"one that has no room":     {[]api.Tlv{ack(8), long}, api.ErrMtu},
		"no room, then wrong":      {[]api.Tlv{long, {}}, api.ErrMtu},
		"wrong, then no room":      {[]api.Tlv{{}, long}, api.ErrArg},
		"none that stands alone":   {[]api.Tlv{long}, api.ErrMtu},
		"too many stamps of hello": {[]api.Tlv{{Type: api.TypeHello, Stamps: []uint32{1, 2}}}, api.ErrArg},
	} {
		s := started(t)
		is(t, s.Queue(0, who(6), c.l...), c.want)
		waits(t, s, 0)
		flushes(t, s)
		must(t, s.Queue(0, who(5), ack(1), ack(2)))
		for _, to := range []api.Addr{who(5), who(6), everybody} {
			if e := s.Queue(0, to, c.l...); e != c.want {
				t.Fatalf("%s: error %d, want %d", name, e, c.want)
			}
		}
		waits(t, s, 2, 0, 0)
		must(t, s.Queue(0, who(5), ack(3)))
		flushes(t, s, packed(t, faces()[0], 0, who(5), ack(1), ack(2), ack(3))...)
	}
}

func TestQueueByTheInterfacesOwnMtu(t *testing.T) { // P14.4
	long := update(1, api.Addr{0: 0x20, 15: 1})
	long.Pair = api.Pair{Dst: api.Prefix{A: api.Addr{0: 0x20, 15: 1}, Len: 128}, Src: api.Prefix{A: api.Addr{0: 0x20, 15: 2}, Len: 128}}
	s := started(t)
	is(t, s.Queue(0, everybody, long), api.ErrMtu)
	must(t, s.Queue(1, everybody, long))
	must(t, s.Queue(2, everybody, long))
	waits(t, s, 0, 1, 1)
}

func TestQueueByTheInterfacesOwnAddr(t *testing.T) { // P14.4, P14.5
	f := faces()
	s := started(t)
	for i, c := range f {
		must(t, s.Queue(i, everybody, update(1, c.Addr), update(2, c.Addr)))
	}
	l := s.Flush()
	if len(l) != 3 {
		t.Fatal(l)
	}
	for i, c := range f { // with another src a next hop would stand in front
		if !alike(l[i], packed(t, c, i, everybody, update(1, c.Addr), update(2, c.Addr))[0]) || len(l[i].P) != len(l[0].P) {
			t.Fatalf("packet %d: %v", i, l[i])
		}
	}
}

func TestMtuThatMayNotBe(t *testing.T) { // P14.4: nothing is said of these interfaces, but that no call panics
	for _, mtu := range []int{math.MinInt, -1, 0, 63, 65540, math.MaxInt} {
		f := faces()[0]
		f.Mtu = mtu
		s := New(f)
		must(t, s.Up(0))
		is(t, s.Queue(0, everybody), api.ErrArg)
		is(t, s.Queue(0, everybody, ack(1)), api.ErrArg)
		waits(t, s, 0)
		flushes(t, s)
	}
	for _, mtu := range []int{64, 65539} {
		f := faces()[0]
		f.Mtu = mtu
		s := New(f)
		must(t, s.Up(0))
		must(t, s.Queue(0, everybody, ack(1)))
		flushes(t, s, packed(t, f, 0, everybody, ack(1))...)
	}
}

func TestQueueInTurns(t *testing.T) { // P14.4, P14.5, P14.6
	v4 := api.Addr{10: 0xff, 11: 0xff, 12: 10, 15: 1}
	last := api.Addr{}
	for k := range last {
		last[k] = 255
	}
	order := []api.Addr{everybody, {15: 1}, v4, {0: 1}, who(2), who(10), {0: 0xfe, 1: 0x80, 14: 1}, last} // rising
	s := started(t)
	given := map[api.Addr][]api.Tlv{}
	for k := range 40 {
		to := order[k*5%len(order)]
		must(t, s.Queue(1, to, ack(uint16(k)), update(byte(k), who(3))))
		given[to] = append(given[to], ack(uint16(k)), update(byte(k), who(3)))
		waits(t, s, 0, 2*k+2, 0)
	}
	var want []api.Sent
	for _, to := range order {
		want = append(want, packed(t, faces()[1], 1, to, given[to]...)...)
	}
	flushes(t, s, want...)
}

func TestFlushOfSeveral(t *testing.T) { // P14.5
	f := faces()
	s := started(t)
	flushes(t, s)
	for _, i := range []int{2, 0, 1} {
		for _, to := range []api.Addr{who(9), who(4), everybody} {
			must(t, s.Queue(i, to, acks(10*i, 25)...)) // of 64 bytes each has room for 15
			must(t, s.Queue(i, to, stamped(uint32(i))))
		}
	}
	waits(t, s, 78, 78, 78)
	var want []api.Sent
	for i, c := range f {
		for _, to := range []api.Addr{everybody, who(4), who(9)} {
			want = append(want, packed(t, c, i, to, append(acks(10*i, 25), stamped(uint32(i)))...)...)
		}
	}
	if len(want) != 3*3+3+3 {
		t.Fatalf("the test has %d packets", len(want))
	}
	flushes(t, s, want...)
	waits(t, s, 0, 0, 0)
	flushes(t, s)
	must(t, s.Queue(1, who(4), ack(1)))
	waits(t, s, 0, 1, 0)
	flushes(t, s, packed(t, f[1], 1, who(4), ack(1))...)
}

func TestDownLosesWhatWaits(t *testing.T) { // P14.2, P14.6
	f := faces()
	s := started(t)
	for i := range 3 {
		must(t, s.Queue(i, everybody, ack(1)))
		must(t, s.Queue(i, who(5), ack(2), ack(3)))
	}
	must(t, s.Down(1))
	waits(t, s, 3, 0, 3)
	var want []api.Sent
	for _, i := range []int{0, 2} {
		want = append(want, packed(t, f[i], i, everybody, ack(1))...)
		want = append(want, packed(t, f[i], i, who(5), ack(2), ack(3))...)
	}
	flushes(t, s, want...)
	must(t, s.Up(1))
	waits(t, s, 0, 0, 0)
	flushes(t, s)
	must(t, s.Queue(1, who(5), ack(4)))
	flushes(t, s, packed(t, f[1], 1, who(5), ack(4))...)
}

func TestDownAndUpLosesWhatWaits(t *testing.T) { // P14.2
	s := started(t)
	must(t, s.Queue(0, who(5), ack(1)))
	must(t, s.Down(0))
	must(t, s.Up(0))
	waits(t, s, 0)
	must(t, s.Queue(0, who(5), ack(2)))
	waits(t, s, 1)
	flushes(t, s, packed(t, faces()[0], 0, who(5), ack(2))...)
}

// said answers what packets to an address say, one behind the other.
func said(t *testing.T, src api.Addr, l []api.Sent, i int, to api.Addr) []api.Tlv {
	t.Helper()
	var out []api.Tlv
	for _, p := range l {
		if p.If == i && p.To == to {
			m, e := packet.Parse(src, p.P)
			must(t, e)
			out = append(out, m...)
		}
	}
	return out
}

func TestNothingIsLost(t *testing.T) { // P14.6
	s := started(t)
	req := api.Tlv{Type: api.TypeRouteReq, All: true}
	give := []api.Tlv{ack(1), update(1, who(1)), update(2, who(7)), req, stamped(5), update(3, who(7)), update(4, who(1)), ack(1)}
	for _, x := range give {
		must(t, s.Queue(0, everybody, x))
		must(t, s.Queue(0, who(4), x, x))
	}
	l := s.Flush()
	for _, p := range l {
		if len(p.P) > 64 {
			t.Fatalf("a packet of %d bytes", len(p.P))
		}
	}
	if got := said(t, who(1), l, 0, everybody); !slices.EqualFunc(got, give, packet.Same) {
		t.Fatalf("%v, want %v", got, give)
	}
	var twice []api.Tlv
	for _, x := range give {
		twice = append(twice, x, x)
	}
	if got := said(t, who(1), l, 0, who(4)); !slices.EqualFunc(got, twice, packet.Same) {
		t.Fatalf("%v, want %v", got, twice)
	}
}

func TestNothingHandedInIsKeptOrChanged(t *testing.T) { // P14.1, P14.4 (rule 3)
	given := append(make([]api.IfConf, 0, 8), faces()...)
	spare := given[:8]
	spare[5].Name = "spare"
	s := New(given...)
	if !slices.Equal(given, faces()) || spare[5].Name != "spare" || spare[3] != (api.IfConf{}) {
		t.Fatal("New changed what it was given")
	}
	clear(spare)
	for i, c := range faces() {
		if got, _ := s.Conf(i); got != c {
			t.Fatalf("Conf(%d) is %v", i, got)
		}
		must(t, s.Up(i))
	}
	l := append(make([]api.Tlv, 0, 8), stamped(5), ack(1))
	l[0].Stamps = append(make([]uint32, 0, 4), 5, 6)
	l[:3][2] = ack(77)
	l[0].Stamps[:3][2] = 88
	must(t, s.Queue(1, who(5), l...))
	must(t, s.Queue(1, who(6), l...))
	if len(l) != 2 || !packet.Same(l[0], stamped(5)) || !packet.Same(l[1], ack(1)) || !packet.Same(l[:3][2], ack(77)) || l[0].Stamps[:3][2] != 88 {
		t.Fatal("Queue changed what it was given")
	}
	l[0].Stamps[0], l[0].Stamps[1], l[1] = 99, 99, ack(99)
	must(t, s.Queue(1, who(6), ack(2)))
	want := packed(t, faces()[1], 1, who(5), stamped(5), ack(1))
	flushes(t, s, append(want, packed(t, faces()[1], 1, who(6), stamped(5), ack(1), ack(2))...)...)
	if !packet.Same(l[:3][2], ack(77)) {
		t.Fatal("a later call wrote into spare room")
	}
}

func TestAnswersStay(t *testing.T) { // P14.2, P14.3, P14.5 (rule 3)
	f := faces()
	s := started(t)
	h, _ := s.Hello(5, 2)
	must(t, s.Queue(2, everybody, h))
	for _, to := range []api.Addr{everybody, who(4), who(5)} {
		must(t, s.Queue(0, to, acks(1, 20)...))
	}
	first := s.Flush()
	kept := slices.Clone(first)
	for k := range kept {
		kept[k].P = slices.Clone(kept[k].P)
	}
	must(t, s.Queue(0, everybody, acks(100, 40)...))
	must(t, s.Queue(1, who(4), acks(200, 40)...))
	more, _ := s.Hello(6, 2)
	second := s.Flush()
	must(t, s.Down(0))
	if !slices.EqualFunc(first, kept, alike) || !slices.Equal(h.Stamps, []uint32{5000}) || !slices.Equal(more.Stamps, []uint32{6000}) {
		t.Fatal("an answer changed later")
	}
	for k := range first { // what the caller writes into one packet, its spare room too, is in no other
		p := first[k].P
		for x := range p[:cap(p)] {
			p[:cap(p)][x] = 0xee
		}
		for o := k + 1; o < len(first); o++ {
			if !alike(first[o], kept[o]) {
				t.Fatalf("packets %d and %d share room", k, o)
			}
		}
	}
	clear(first[:cap(first)])
	h.Stamps[0] = 1
	want := append(packed(t, f[0], 0, everybody, acks(100, 40)...), packed(t, f[1], 1, who(4), acks(200, 40)...)...)
	if !slices.EqualFunc(second, want, alike) || more.Stamps[0] != 6000 {
		t.Fatal("two answers share room")
	}
	third, _ := s.Hello(7, 2)
	if !slices.Equal(third.Stamps, []uint32{7000}) || cap(third.Stamps) > 0 && &third.Stamps[:1][0] == &more.Stamps[:1][0] {
		t.Fatal(third)
	}
}

func TestHelloThatIsChangedLaterWasQueuedAsItWas(t *testing.T) { // P14.4 (rule 3)
	s := started(t)
	h, _ := s.Hello(5, 2)
	must(t, s.Queue(2, everybody, h))
	h.Stamps[0] = 99
	want := api.Tlv{Type: api.TypeHello, Interval: 1, Stamps: []uint32{5000}}
	flushes(t, s, packed(t, faces()[2], 2, everybody, want)...)
}

func TestNoAddressIsKeptForWhichNothingWaits(t *testing.T) { // P14.4, P14.5: a router may speak to many, one behind the other
	s := started(t)
	for n := range byte(100) {
		must(t, s.Queue(0, who(n)))
		if len(s.ports[0].wait) != 0 {
			t.Fatal("kept behind a Queue of none")
		}
		must(t, s.Queue(0, who(n), ack(1)))
		s.Flush()
		if len(s.ports[0].wait) != 0 {
			t.Fatal("kept behind Flush")
		}
	}
}
