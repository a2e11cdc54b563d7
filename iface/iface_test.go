package iface

import (
	"math"
	"slices"
	"testing"

	"culvert/api"
	"culvert/pack"
	"culvert/packet"
	"culvert/rtt"
)

// far are numbers of interfaces that are none, where there are three at most.
var far = []int{3, 4, 255, 65536, 1 << 32, math.MaxInt, -1, -2, -3, -1 << 32, math.MinInt}

// who is the address of somebody.
func who(n byte) api.Addr {
	return api.Addr{0: 0xfe, 1: 0x80, 15: n}
}

// faces are three interfaces that have little in common: the last one tells times.
func faces() []api.IfConf {
	return []api.IfConf{
		{Name: "e0", Kind: api.Wired, Cost: 96, Hello: 4000, Update: 16000, Mtu: 64, Addr: who(1)},
		{Name: "w0", Kind: api.Wireless, Cost: 256, Hello: 2000, Update: 8000, Mtu: 1280, Addr: who(2), Addr4: api.Addr{10: 0xff, 11: 0xff, 12: 10, 15: 2}},
		{Name: "e1", Kind: api.Wired, Cost: 100, Hello: 10, Update: 20, Mtu: 500, Addr: who(3), Rtt: api.Rtt{On: true, Min: 10, Max: 110, Cost: 50, Decay: 64}},
	}
}

// started answers the three, all up.
func started(t *testing.T) *Set {
	t.Helper()
	s := New(faces()...)
	for i := range 3 {
		must(t, s.Up(i))
	}
	return s
}

// must fails unless a call was taken.
func must(t *testing.T, e api.Errno) {
	t.Helper()
	if e != api.OK {
		t.Fatalf("refused: %d", e)
	}
}

// is fails unless a call's error is that one.
func is(t *testing.T, got, want api.Errno) {
	t.Helper()
	if got != want {
		t.Fatalf("error %d, want %d", got, want)
	}
}

// waits fails unless as many wait on the interfaces, from 0 on.
func waits(t *testing.T, s *Set, want ...int) {
	t.Helper()
	for i, n := range want {
		if got := s.Waiting(i); got != n {
			t.Fatalf("%d wait on %d, want %d", got, i, n)
		}
	}
}

// next fails unless the interface's next hello has that seqno.
func next(t *testing.T, s *Set, i int, want uint16) {
	t.Helper()
	h, e := s.Hello(0, i)
	if e != api.OK || h.Seqno != want {
		t.Fatalf("hello of %d: seqno %d, error %d, want %d", i, h.Seqno, e, want)
	}
}

func ack(n uint16) api.Tlv {
	return api.Tlv{Type: api.TypeAck, Nonce: n}
}

// acks answers count of them, from a nonce on.
func acks(first, count int) []api.Tlv {
	var l []api.Tlv
	for k := range count {
		l = append(l, ack(uint16(first+k)))
	}
	return l
}

// update is one that needs a router and a next hop told in front of it.
func update(n byte, hop api.Addr) api.Tlv {
	p := api.Prefix{A: api.Addr{0: 0x20, 1: 1, 2: n}, Len: 24}
	return api.Tlv{Type: api.TypeUpdate, Interval: 1600, Seqno: 5, Metric: 96, Id: api.RouterId{7: 9}, Addr: hop, Pair: api.Pair{Dst: p}}
}

// stamped is a Tlv that has a list in it.
func stamped(n uint32) api.Tlv {
	return api.Tlv{Type: api.TypeIhu, Rxcost: 96, Interval: 1200, Addr: who(9), Stamps: []uint32{n, n + 1}}
}

// packed answers what Flush ought to tell of l on an interface, to an address.
func packed(t *testing.T, c api.IfConf, i int, to api.Addr, l ...api.Tlv) []api.Sent {
	t.Helper()
	ps, e := pack.Pack(c.Addr, c.Mtu, l...)
	must(t, e)
	var out []api.Sent
	for _, p := range ps {
		out = append(out, api.Sent{If: i, To: to, P: p})
	}
	return out
}

func alike(a, b api.Sent) bool {
	return a.If == b.If && a.To == b.To && slices.Equal(a.P, b.P)
}

// flushes fails unless that is what Flush tells.
func flushes(t *testing.T, s *Set, want ...api.Sent) {
	t.Helper()
	if got := s.Flush(); !slices.EqualFunc(got, want, alike) {
		t.Fatalf("flushed\n%v, want\n%v", got, want)
	}
}

func TestNewOfNone(t *testing.T) { // P14.1
	s := New()
	if s == nil {
		t.Fatal("nil is no set")
	}
	is(t, s.Up(0), api.ErrArg)
	is(t, s.Down(0), api.ErrArg)
	_, e := s.Conf(0)
	is(t, e, api.ErrArg)
	_, e = s.Hello(0, 0)
	is(t, e, api.ErrArg)
	is(t, s.Queue(0, api.Addr{}, ack(1)), api.ErrArg)
	if i, ok := s.Find(""); i != 0 || ok || s.IsUp(0) || s.Waiting(0) != 0 || len(s.Flush()) != 0 {
		t.Fatal("there is an interface")
	}
}

func TestNewAnswersAllDown(t *testing.T) { // P14.1
	for n := range 4 {
		s := New(faces()[:n]...)
		for i := range n {
			if s.IsUp(i) || s.Waiting(i) != 0 {
				t.Fatalf("of %d, %d: is up, or has something that waits", n, i)
			}
			is(t, s.Down(i), api.ErrThere)
			is(t, s.Up(i), api.OK)
			next(t, s, i, 0)
		}
		is(t, s.Up(n), api.ErrArg)
		flushes(t, s)
	}
}

func TestNewTwiceOfOneName(t *testing.T) { // P14.1, P14.2
	l := faces()
	l[1].Name, l[2].Name = "x", "x"
	s := New(l...)
	if i, ok := s.Find("x"); i != 1 || !ok {
		t.Fatal(i, ok)
	}
	must(t, s.Up(1))
	if !s.IsUp(1) || s.IsUp(2) {
		t.Fatal("the other one of that name went up")
	}
	must(t, s.Up(2))
	must(t, s.Queue(2, who(5), ack(1)))
	waits(t, s, 0, 0, 1)
	must(t, s.Down(1))
	waits(t, s, 0, 0, 1)
}

func TestSetsAreTheirOwn(t *testing.T) { // P14.1
	l := faces()
	s, o := New(l...), New(l...)
	must(t, s.Up(0))
	must(t, s.Queue(0, who(5), ack(1)))
	next(t, s, 0, 0)
	if o.IsUp(0) || o.Waiting(0) != 0 {
		t.Fatal("two sets share an interface")
	}
	must(t, o.Up(0))
	next(t, o, 0, 0)
}

func TestUpAndDown(t *testing.T) { // P14.2
	s := New(faces()...)
	for i := range 3 {
		must(t, s.Up(i))
		is(t, s.Up(i), api.ErrThere)
		for k := range 3 {
			if s.IsUp(k) != (k <= i) {
				t.Fatalf("%d behind Up(%d): %v", k, i, s.IsUp(k))
			}
		}
	}
	for range 3 {
		must(t, s.Down(1))
		is(t, s.Down(1), api.ErrThere)
		if !s.IsUp(0) || s.IsUp(1) || !s.IsUp(2) {
			t.Fatal("Down of 1 left 1 up, or took another one")
		}
		must(t, s.Up(1))
		if !s.IsUp(1) {
			t.Fatal("not up again")
		}
	}
}

func TestUpThatIsRefusedKeepsWhatWaits(t *testing.T) { // P14.2
	s := started(t)
	must(t, s.Queue(0, who(5), ack(1), ack(2)))
	is(t, s.Up(0), api.ErrThere)
	is(t, s.Down(3), api.ErrArg)
	waits(t, s, 2, 0, 0)
	flushes(t, s, packed(t, faces()[0], 0, who(5), ack(1), ack(2))...)
}

func TestWhatIsNoInterface(t *testing.T) { // P14.2, P14.3, P14.4, P14.5
	for _, n := range []int{0, 1, 3} {
		s := New(faces()[:n]...)
		for i := range n {
			must(t, s.Up(i))
			must(t, s.Queue(i, who(5), ack(7)))
		}
		for _, i := range append(slices.Clone(far), n) {
			is(t, s.Up(i), api.ErrArg)
			is(t, s.Down(i), api.ErrArg)
			if s.IsUp(i) || s.Waiting(i) != 0 {
				t.Fatalf("%d of %d is up, or has something that waits", i, n)
			}
			if c, e := s.Conf(i); c != (api.IfConf{}) || e != api.ErrArg {
				t.Fatalf("Conf(%d) of %d: %v, %d", i, n, c, e)
			}
			if h, e := s.Hello(1, i); !packet.Same(h, api.Tlv{}) || e != api.ErrArg {
				t.Fatalf("Hello(%d) of %d: %v, %d", i, n, h, e)
			}
			is(t, s.Queue(i, who(5), ack(8)), api.ErrArg)
			is(t, s.Queue(i, who(5)), api.ErrArg)
			is(t, s.Queue(i, who(5), api.Tlv{}), api.ErrArg)
		}
		for i := range n {
			if s.Waiting(i) != 1 {
				t.Fatal("a call on none changed one")
			}
			next(t, s, i, 0)
		}
		if got := s.Flush(); len(got) != n {
			t.Fatalf("%d packets of %d", len(got), n)
		}
	}
}

func TestConf(t *testing.T) { // P14.2
	s := New(faces()...)
	for n := range 2 {
		for i, want := range faces() {
			if c, e := s.Conf(i); c != want || e != api.OK {
				t.Fatalf("Conf(%d): %v, %d, want %v", i, c, e, want)
			}
			must(t, s.Up(i))
			next(t, s, i, uint16(n))
			must(t, s.Queue(i, who(5), ack(1)))
		}
		for i := range 3 {
			must(t, s.Down(i))
		}
	}
}

func TestFind(t *testing.T) { // P14.2
	s := New(faces()...)
	for i, c := range faces() {
		if k, ok := s.Find(c.Name); k != i || !ok {
			t.Fatalf("Find(%s): %d, %v", c.Name, k, ok)
		}
	}
	for _, n := range []string{"", "e", "e2", "e00", "E0", "e0 ", " e0", "e0\x00", "e1e"} {
		if k, ok := s.Find(n); k != 0 || ok {
			t.Fatalf("Find(%q): %d, %v", n, k, ok)
		}
	}
	must(t, s.Up(1))
	if k, ok := s.Find("w0"); k != 1 || !ok {
		t.Fatal("one that is up is not found")
	}
}

func TestHello(t *testing.T) { // P14.3
	s := started(t)
	for n := range 5 {
		for i, c := range faces() {
			now := 1000*n + i
			want := api.Tlv{Type: api.TypeHello, Seqno: uint16(n), Interval: uint16(c.Hello / 10)}
			if c.Rtt.On {
				want.Stamps = []uint32{uint32(now * 1000)}
			}
			if h, e := s.Hello(now, i); e != api.OK || !packet.Same(h, want) {
				t.Fatalf("hello %d of %d: %v, %d, want %v", n, i, h, e, want)
			}
		}
	}
	waits(t, s, 0, 0, 0)
}

func TestHelloOfOneThatIsDown(t *testing.T) { // P14.3
	s := New(faces()...)
	for range 3 {
		if h, e := s.Hello(5, 2); e != api.ErrNone || !packet.Same(h, api.Tlv{}) {
			t.Fatal(h, e)
		}
	}
	must(t, s.Up(2))
	next(t, s, 2, 0)
	must(t, s.Up(1))
	next(t, s, 2, 1)
	next(t, s, 1, 0)
	must(t, s.Down(2))
	if h, e := s.Hello(5, 2); e != api.ErrNone || !packet.Same(h, api.Tlv{}) {
		t.Fatal(h, e)
	}
	next(t, s, 1, 1)
	must(t, s.Up(2))
	next(t, s, 2, 2)
	next(t, s, 2, 3)
}

func TestHelloGoesRound(t *testing.T) { // P14.3
	s := started(t)
	for n := range 2*65536 + 3 {
		if n == 65535 || n == 65536 { // the round does not begin anew where the interface went down
			must(t, s.Down(0))
			must(t, s.Up(0))
		}
		next(t, s, 0, uint16(n%65536))
	}
	next(t, s, 1, 0)
}

func TestHelloInterval(t *testing.T) { // P14.3
	for _, c := range []struct {
		hello int
		want  uint16
	}{{0, 0}, {9, 0}, {10, 1}, {19, 1}, {4000, 400}, {655340, 65534}, {655350, 65535}, {655359, 65535}, {655360, 65535}, {655370, 65535}, {1310720, 65535}, {1 << 40, 65535}, {math.MaxInt, 65535}} {
		f := faces()[0]
		f.Hello = c.hello
		s := New(f)
		must(t, s.Up(0))
		if h, e := s.Hello(0, 0); e != api.OK || h.Interval != c.want {
			t.Errorf("Hello %d: interval %d, error %d, want %d", c.hello, h.Interval, e, c.want)
		}
	}
}

func TestHelloTellsTheTime(t *testing.T) { // P14.3
	s := started(t)
	for _, now := range []int{0, 1, 999, 4294967, 4294968, 1 << 40, math.MaxInt, -1, math.MinInt} {
		h, e := s.Hello(now, 2)
		if e != api.OK || !slices.Equal(h.Stamps, []uint32{rtt.Clock(now)}) {
			t.Fatalf("at %d: %v, %d", now, h, e)
		}
		if h, e = s.Hello(now, 0); e != api.OK || len(h.Stamps) != 0 {
			t.Fatalf("without Rtt, at %d: %v, %d", now, h, e)
		}
	}
	f := faces()[2]
	f.Rtt.On = false // what else stands in Rtt makes no odds
	s = New(f)
	must(t, s.Up(0))
	if h, e := s.Hello(5, 0); e != api.OK || len(h.Stamps) != 0 {
		t.Fatal(h, e)
	}
}

func TestHelloCanBeQueued(t *testing.T) { // P14.3, P14.6
	s := started(t)
	for i, c := range faces() {
		h, e := s.Hello(77, i)
		must(t, e)
		must(t, s.Queue(i, api.Addr{}, h))
		l := s.Flush()
		if len(l) != 1 {
			t.Fatal(l)
		}
		got, e := packet.Parse(c.Addr, l[0].P)
		if e != api.OK || len(got) != 1 || !packet.Same(got[0], h) {
			t.Fatalf("%v, %d, want %v", got, e, h)
		}
	}
}

func TestOnNil(t *testing.T) { // P14.5
	var s *Set
	for _, i := range append(slices.Clone(far), 0, 1) {
		is(t, s.Up(i), api.ErrNone)
		is(t, s.Down(i), api.ErrNone)
		is(t, s.Queue(i, who(1), ack(1)), api.ErrNone)
		is(t, s.Queue(i, api.Addr{}), api.ErrNone)
		is(t, s.Queue(i, api.Addr{}, api.Tlv{}), api.ErrNone)
		if s.IsUp(i) || s.Waiting(i) != 0 || len(s.Flush()) != 0 {
			t.Fatal("nil is a set")
		}
		if c, e := s.Conf(i); c != (api.IfConf{}) || e != api.ErrNone {
			t.Fatal(c, e)
		}
		if h, e := s.Hello(0, i); !packet.Same(h, api.Tlv{}) || e != api.ErrNone {
			t.Fatal(h, e)
		}
	}
	for _, n := range []string{"", "e0"} {
		if i, ok := s.Find(n); i != 0 || ok {
			t.Fatal(i, ok)
		}
	}
}
