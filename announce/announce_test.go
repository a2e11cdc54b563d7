package announce

import (
	"math"
	"reflect"
	"slices"
	"testing"

	"culvert/addr"
	"culvert/api"
	"culvert/packet"
)

var (
	six   = at("fe80::1")
	other = at("fe80::2")
	four  = at("10.0.0.1")
	name  = api.RouterId{7: 1}
)

func at(s string) api.Addr {
	a, e := addr.Parse(s)
	if e != api.OK {
		panic(s)
	}
	return a
}

func pair(s string) api.Pair {
	p, e := addr.ParsePair(s)
	if e != api.OK {
		panic(s)
	}
	return p
}

func pairs(l ...string) []api.Pair {
	var out []api.Pair
	for _, s := range l {
		out = append(out, pair(s))
	}
	return out
}

// both is an interface of IPv4 and IPv6, lone one of IPv6 alone.
func both() api.IfConf {
	return api.IfConf{Name: "e0", Cost: 96, Hello: 4000, Update: 16000, Mtu: 1280, Addr: six, Addr4: four}
}

func lone() api.IfConf {
	return api.IfConf{Name: "e1", Cost: 96, Hello: 4000, Update: 20000, Mtu: 1280, Addr: other}
}

func offer(s string, seqno, metric uint16) api.Offer {
	return api.Offer{Pair: pair(s), Id: name, Seqno: seqno, Metric: metric}
}

// good and bad are the updates that there is a way, and that there is none, on the interface both.
func good(s string, seqno, metric uint16, hop api.Addr) api.Tlv {
	return api.Tlv{Type: api.TypeUpdate, Interval: 1600, Seqno: seqno, Metric: metric, Id: name, Addr: hop, Pair: pair(s)}
}

func bad(s string, seqno uint16) api.Tlv {
	return api.Tlv{Type: api.TypeUpdate, Interval: 1600, Seqno: seqno, Metric: api.Infinity, Pair: pair(s)}
}

// same fails unless got is want, and made of what packets can say.
func same(t *testing.T, got []api.Tlv, want ...api.Tlv) {
	t.Helper()
	if len(got)+len(want) > 0 && !reflect.DeepEqual(got, want) {
		t.Fatalf("got  %v\nwant %v", got, want)
	}
	for _, x := range got {
		if e := packet.Check(x); e != api.OK {
			t.Fatalf("%v: %d", x, e)
		}
	}
}

// told fails unless just these pairs are told on an interface.
func told(t *testing.T, b *Book, i int, want ...string) {
	t.Helper()
	if got := b.Told(i); !slices.Equal(got, pairs(want...)) {
		t.Fatalf("told on %d: %v, want %v", i, got, want)
	}
}

// wrong are pairs that addr.CheckPair refuses.
func wrong() []api.Pair {
	p, q, r, s := pair("10.0.0.0/8"), pair("2001:db8::/32"), pair("10.0.0.0/8"), pair("2001:db8::/32")
	p.Dst.A[15] = 1
	q.Src.Len = 129
	r.Src = addr.Any(api.V6)
	s.Dst.Len = math.MinInt
	return []api.Pair{p, q, r, s}
}

func TestNewToldNothing(t *testing.T) { // P21.1
	b := New(both(), lone())
	for _, i := range []int{0, 1, 2, -1, math.MaxInt, math.MinInt} {
		told(t, b, i)
		same(t, b.Withdraw(i))
	}
	if n := b.Forget(0, 1); n != 0 {
		t.Fatal(n)
	}
}

func TestWhatCanBeTold(t *testing.T) { // P21.1
	b := New(both(), lone())
	for _, x := range []struct {
		s         string
		here, too bool
	}{
		{"10.0.0.0/8", true, false},
		{"0.0.0.0/0", true, false},
		{"10.0.0.0/8 from 1.0.0.0/8", true, false},
		{"2001:db8::/32", true, true},
		{"::/0", true, true},
		{"2001:db8::/32 from 2001:db8:1::/48", true, true},
		{"::/96", true, true},
	} {
		if p := pair(x.s); b.Can(0, p) != x.here || b.Can(1, p) != x.too {
			t.Errorf("%s: %v, %v", x.s, b.Can(0, p), b.Can(1, p))
		}
	}
	around := api.Pair{Dst: api.Prefix{A: api.Addr{10: 0xff, 11: 0xfe}, Len: 95}, Src: addr.Any(api.V6)} // of IPv6, though all of IPv4 lies in it
	if !b.Can(1, around) {
		t.Error("a prefix of IPv6 around all of IPv4 cannot be told")
	}
	for _, p := range wrong() {
		if b.Can(0, p) || b.Can(1, p) {
			t.Errorf("%v can be told", p)
		}
	}
}

func TestOnNoInterfaceAnythingCanBeTold(t *testing.T) { // P21.1
	b := New(both(), lone())
	for _, i := range []int{2, 3, -1, math.MaxInt, math.MinInt} {
		if b.Can(i, pair("2001:db8::/32")) || b.Can(i, pair("10.0.0.0/8")) {
			t.Errorf("on %d", i)
		}
	}
	if New().Can(0, pair("::/0")) {
		t.Error("on none of none")
	}
}

func TestTellOfAWay(t *testing.T) { // P21.2
	b := New(both(), lone())
	same(t, b.Tell(0, offer("2001:db8::/32", 5, 96), offer("10.0.0.0/8", 6, 0), offer("10.0.0.0/8 from 1.0.0.0/8", 65535, 65534)),
		good("2001:db8::/32", 5, 96, six), good("10.0.0.0/8", 6, 0, four), good("10.0.0.0/8 from 1.0.0.0/8", 65535, 65534, four))
	told(t, b, 0, "10.0.0.0/8", "10.0.0.0/8 from 1.0.0.0/8", "2001:db8::/32")
	told(t, b, 1)
	x := good("2001:db8::/32", 5, 96, other)
	x.Interval = 2000
	same(t, b.Tell(1, offer("2001:db8::/32", 5, 96), offer("10.0.0.0/8", 6, 0)), x)
	told(t, b, 1, "2001:db8::/32")
}

func TestTellTellsAgain(t *testing.T) { // P21.2: each time, also what was told so
	b := New(both())
	o := offer("2001:db8::/32", 5, 96)
	same(t, b.Tell(0, o, o), good("2001:db8::/32", 5, 96, six), good("2001:db8::/32", 5, 96, six))
	same(t, b.Tell(0, o), good("2001:db8::/32", 5, 96, six))
	told(t, b, 0, "2001:db8::/32")
}

func TestTellTakesBackWhatWasTold(t *testing.T) { // P21.2, example 1
	b := New(both())
	o, no := offer("10.0.0.0/8", 5, 96), offer("10.0.0.0/8", 9, api.Infinity)
	same(t, b.Tell(0, no))
	same(t, b.Tell(0, o), good("10.0.0.0/8", 5, 96, four))
	same(t, b.Tell(0, no), bad("10.0.0.0/8", 9))
	told(t, b, 0)
	same(t, b.Tell(0, no))
	same(t, b.Withdraw(0))
	same(t, b.Tell(0, no, o, no, no, o), good("10.0.0.0/8", 5, 96, four), bad("10.0.0.0/8", 9), good("10.0.0.0/8", 5, 96, four))
	told(t, b, 0, "10.0.0.0/8")
}

func TestInterfacesAreApart(t *testing.T) { // P21.2
	b := New(both(), lone(), both())
	b.Tell(0, offer("::/0", 1, 1))
	b.Tell(2, offer("10.0.0.0/8", 1, 1))
	same(t, b.Tell(1, offer("::/0", 2, api.Infinity)))
	same(t, b.Tell(2, offer("::/0", 2, api.Infinity)))
	told(t, b, 0, "::/0")
	told(t, b, 1)
	told(t, b, 2, "10.0.0.0/8")
}

func TestPairsThatDifferInTheirSourceAreTwo(t *testing.T) { // P21.2
	b := New(both())
	b.Tell(0, offer("::/0", 1, 1), offer("::/0 from 2001:db8::/32", 1, 1))
	same(t, b.Tell(0, offer("::/0", 2, api.Infinity)), bad("::/0", 2))
	told(t, b, 0, "::/0 from 2001:db8::/32")
}

func TestWhatCannotBeToldIsPassedOver(t *testing.T) { // P21.2
	b := New(both(), lone())
	for _, p := range wrong() {
		o := api.Offer{Pair: p, Id: name, Seqno: 1, Metric: 5}
		same(t, b.Tell(0, o))
		o.Metric = api.Infinity
		same(t, b.Tell(0, o))
	}
	told(t, b, 0)
	same(t, b.Tell(1, offer("10.0.0.0/8", 1, 5), offer("10.0.0.0/8", 1, api.Infinity)))
	told(t, b, 1)
	for _, i := range []int{2, -1, math.MaxInt, math.MinInt} {
		same(t, b.Tell(i, offer("::/0", 1, 5)))
	}
	same(t, b.Tell(0))
}

func TestTheIntervalIsTheUpdatesDividedByTen(t *testing.T) { // P21.2, P21.3, P21.4
	for _, x := range []struct {
		update int
		want   uint16
	}{{10, 1}, {16000, 1600}, {655340, 65534}, {655350, 65535}, {655360, 65535}, {20000000, 65535}, {math.MaxInt, 65535}} {
		c := both()
		c.Update = x.update
		b := New(c)
		got := b.Tell(0, offer("::/0", 1, 1), offer("::/0", 1, api.Infinity), offer("10.0.0.0/8", 1, 1))
		y, _ := b.Answer(0, offer("::/0", 1, api.Infinity))
		for _, z := range append(append(got, y), b.Withdraw(0)...) {
			if z.Interval != x.want {
				t.Errorf("Update %d: %d", x.update, z.Interval)
			}
		}
	}
}

func TestAnswerOfAWay(t *testing.T) { // P21.3: it is told there then
	b := New(both(), lone())
	got, ok := b.Answer(0, offer("10.0.0.0/8", 5, 96))
	same(t, []api.Tlv{got}, good("10.0.0.0/8", 5, 96, four))
	again, too := b.Answer(0, offer("::/0", 5, 0))
	same(t, []api.Tlv{again}, good("::/0", 5, 0, six))
	if !ok || !too {
		t.Fatal(ok, too)
	}
	told(t, b, 0, "::/0", "10.0.0.0/8")
	told(t, b, 1)
}

func TestAnswerOfNoWay(t *testing.T) { // P21.3: also where it was never told
	b := New(both(), lone())
	got, ok := b.Answer(0, offer("10.0.0.0/8", 5, api.Infinity))
	same(t, []api.Tlv{got}, bad("10.0.0.0/8", 5))
	b.Tell(0, offer("10.0.0.0/8", 5, 1), offer("::/0", 5, 1))
	again, too := b.Answer(0, offer("10.0.0.0/8", 6, api.Infinity))
	same(t, []api.Tlv{again}, bad("10.0.0.0/8", 6))
	if !ok || !too {
		t.Fatal(ok, too)
	}
	told(t, b, 0, "::/0")
	same(t, b.Withdraw(0), bad("::/0", 0))
}

func TestAnswerOfAWayThatCannotBeTold(t *testing.T) { // P21.3: there is none through this interface
	b := New(both(), lone())
	got, ok := b.Answer(1, offer("10.0.0.0/8", 5, 96))
	want := bad("10.0.0.0/8", 5)
	want.Interval = 2000
	same(t, []api.Tlv{got}, want)
	if !ok {
		t.Fatal("false")
	}
	told(t, b, 1)
}

func TestAnswerThatThereIsNone(t *testing.T) { // P21.3
	b := New(both())
	b.Tell(0, offer("::/0", 1, 1))
	none := func(i int, o api.Offer) {
		t.Helper()
		if got, ok := b.Answer(i, o); ok || !reflect.DeepEqual(got, api.Tlv{}) {
			t.Errorf("%d, %v: %v, %v", i, o, got, ok)
		}
	}
	for _, i := range []int{1, -1, math.MaxInt, math.MinInt} {
		none(i, offer("::/0", 1, 1))
		none(i, offer("::/0", 1, api.Infinity))
	}
	for _, p := range wrong() {
		none(0, api.Offer{Pair: p, Id: name, Metric: 1})
		none(0, api.Offer{Pair: p, Id: name, Metric: api.Infinity})
	}
	told(t, b, 0, "::/0")
}

func TestWithdraw(t *testing.T) { // P21.4: rising, seqno 0; P21.6
	b := New(both(), lone())
	b.Tell(0, offer("2001:db8::/32", 7, 1), offer("10.1.0.0/16", 7, 1), offer("10.0.0.0/8 from 1.0.0.0/8", 7, 1), offer("10.0.0.0/8", 7, 1))
	b.Tell(1, offer("2001:db8::/32", 7, 1))
	same(t, b.Withdraw(0), bad("10.0.0.0/8", 0), bad("10.0.0.0/8 from 1.0.0.0/8", 0), bad("10.1.0.0/16", 0), bad("2001:db8::/32", 0))
	told(t, b, 0)
	same(t, b.Withdraw(0))
	told(t, b, 1, "2001:db8::/32")
	b.Tell(0, offer("10.1.0.0/16", 8, 1))
	same(t, b.Withdraw(0), bad("10.1.0.0/16", 0))
}

func TestForget(t *testing.T) { // P21.4
	b := New(both(), lone(), both(), both())
	for _, i := range []int{0, 2, 3} {
		b.Tell(i, offer("::/0", 1, 1), offer("10.0.0.0/8", 1, 1))
	}
	if n := b.Forget(); n != 0 {
		t.Fatal(n)
	}
	if n := b.Forget(-1, 4, math.MaxInt, math.MinInt, 1); n != 0 {
		t.Fatal(n)
	}
	if n := b.Forget(2, 9, 0, 2, 0); n != 4 { // one that is named twice has nothing the second time
		t.Fatal(n)
	}
	told(t, b, 0)
	told(t, b, 2)
	told(t, b, 3, "::/0", "10.0.0.0/8")
	same(t, b.Tell(0, offer("::/0", 1, api.Infinity))) // what was forgotten is not taken back
	same(t, b.Withdraw(0))
}

func TestANilBook(t *testing.T) { // P21.5
	var b *Book
	x, ok := b.Answer(0, offer("::/0", 1, 1))
	if b.Can(0, pair("::/0")) || len(b.Tell(0, offer("::/0", 1, 1))) != 0 || ok || !reflect.DeepEqual(x, api.Tlv{}) ||
		len(b.Withdraw(0)) != 0 || b.Forget(0, 1) != 0 || len(b.Told(0)) != 0 {
		t.Error("a nil Book answers something")
	}
}

func TestNothingIsShared(t *testing.T) { // rule 3
	ifs := []api.IfConf{both(), lone(), both()}[:2]
	b := New(ifs...)
	if ifs[:3][2] != both() {
		t.Error("New changed the spare room")
	}
	ifs[0] = lone()
	l := []api.Offer{offer("::/0", 1, 1), offer("10.0.0.0/8", 2, 2), offer("::/0", 3, api.Infinity)}
	kept := slices.Clone(l)
	got := b.Tell(0, l[:2]...)
	same(t, got, good("::/0", 1, 1, six), good("10.0.0.0/8", 2, 2, four))
	if !slices.Equal(l, kept) {
		t.Error("Tell changed its offers")
	}
	l[0], got[0] = api.Offer{}, api.Tlv{}
	clear(got[:cap(got)])
	x, y := b.Told(0), b.Told(0)
	clear(x[:cap(x)])
	if !slices.Equal(y, pairs("::/0", "10.0.0.0/8")) {
		t.Error("two answers share", y)
	}
	told(t, b, 0, "::/0", "10.0.0.0/8")
}
