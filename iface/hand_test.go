package iface

import (
	"bytes"
	"cmp"
	"math"
	"math/rand"
	"slices"
	"testing"

	"culvert/api"
	"culvert/pack"
	"culvert/packet"
	"culvert/rtt"
)

// letter is a Tlv that waits.
type letter struct {
	i  int
	to api.Addr
	t  api.Tlv
}

// book is a second reading of a set: all that waits in one list, in the order in which it came, put in order where it goes out.
type book struct {
	ifs   []api.IfConf
	up    []bool
	hello []int // how many there were
	all   []letter
}

func newBook(ifs []api.IfConf) *book {
	return &book{ifs: ifs, up: make([]bool, len(ifs)), hello: make([]int, len(ifs))}
}

func (b *book) has(i int) bool {
	return 0 <= i && i < len(b.ifs)
}

func (b *book) turn(i int, up bool) api.Errno {
	if !b.has(i) {
		return api.ErrArg
	}
	if b.up[i] == up {
		return api.ErrThere
	}
	b.up[i] = up
	if !up {
		b.all = slices.DeleteFunc(b.all, func(l letter) bool { return l.i == i })
	}
	return api.OK
}

func (b *book) why(i int) api.Errno {
	switch {
	case !b.has(i):
		return api.ErrArg
	case !b.up[i]:
		return api.ErrNone
	}
	return api.OK
}

func (b *book) next(now, i int) (api.Tlv, api.Errno) {
	if e := b.why(i); e != api.OK {
		return api.Tlv{}, e
	}
	t := api.Tlv{Type: api.TypeHello, Seqno: uint16(b.hello[i] % 65536), Interval: 65535}
	if b.ifs[i].Hello < 655350 {
		t.Interval = uint16(b.ifs[i].Hello / 10)
	}
	if b.ifs[i].Rtt.On {
		t.Stamps = append(t.Stamps, rtt.Clock(now))
	}
	b.hello[i]++
	return t, api.OK
}

func (b *book) queue(i int, to api.Addr, l []api.Tlv) api.Errno {
	if e := b.why(i); e != api.OK {
		return e
	}
	if _, e := pack.Pack(b.ifs[i].Addr, b.ifs[i].Mtu, l...); e != api.OK {
		return e
	}
	for _, t := range l {
		b.all = append(b.all, letter{i, to, t})
	}
	return api.OK
}

func (b *book) waiting(i int) int {
	n := 0
	for _, l := range b.all {
		if l.i == i {
			n++
		}
	}
	return n
}

func byWhere(a, b letter) int {
	return cmp.Or(cmp.Compare(a.i, b.i), bytes.Compare(a.to[:], b.to[:]))
}

func (b *book) flush() []api.Sent {
	slices.SortStableFunc(b.all, byWhere)
	var out []api.Sent
	for len(b.all) > 0 {
		first := b.all[0]
		var l []api.Tlv
		for len(b.all) > 0 && byWhere(b.all[0], first) == 0 {
			l, b.all = append(l, b.all[0].t), b.all[1:]
		}
		ps, _ := pack.Pack(b.ifs[first.i].Addr, b.ifs[first.i].Mtu, l...)
		for _, p := range ps {
			out = append(out, api.Sent{If: first.i, To: first.to, P: p})
		}
	}
	return out
}

// anyTlv answers one of each kind, now and then one that pack refuses.
func anyTlv(r *rand.Rand) api.Tlv {
	pair := api.Pair{Dst: api.Prefix{A: api.Addr{0: 0x20, 1: byte(r.Intn(4))}, Len: 16}}
	switch r.Intn(9) {
	case 0:
		return api.Tlv{Type: api.TypeAckReq, Nonce: uint16(r.Int()), Interval: 1 + uint16(r.Intn(100))}
	case 1:
		return ack(uint16(r.Int()))
	case 2:
		return api.Tlv{Type: api.TypeHello, Seqno: uint16(r.Int()), Interval: 400, Unicast: r.Intn(2) == 0}
	case 3:
		return stamped(r.Uint32())
	case 4:
		return api.Tlv{Type: api.TypeUpdate, All: true, Interval: 4, Metric: api.Infinity}
	case 5:
		return api.Tlv{Type: api.TypeRouteReq, Pair: pair}
	case 6:
		return api.Tlv{Type: api.TypeSeqnoReq, Pair: pair, Seqno: 5, Hops: uint8(r.Intn(8)), Id: api.RouterId{1}}
	case 7:
		return update(byte(r.Int()), who(byte(r.Intn(3))))
	}
	return api.Tlv{Type: uint8(r.Intn(16))}
}

func anyTlvs(r *rand.Rand, most int) []api.Tlv {
	var l []api.Tlv
	for range r.Intn(most) {
		t := anyTlv(r)
		for packet.Check(t) != api.OK && r.Intn(8) > 0 { // most lists can be taken
			t = anyTlv(r)
		}
		l = append(l, t)
	}
	return l
}

func anyIfs(r *rand.Rand) []api.IfConf {
	var l []api.IfConf
	for range r.Intn(5) {
		c := faces()[r.Intn(3)]
		c.Addr, c.Mtu = who(byte(r.Intn(3))), 64+r.Intn(100)
		c.Hello = 10 * (1 + r.Intn(80000))
		l = append(l, c)
	}
	return l
}

// whom answers an address out of few, so that several letters go to one.
func whom(r *rand.Rand) api.Addr {
	switch r.Intn(4) {
	case 0:
		return everybody
	case 1:
		return api.Addr{10: 0xff, 11: 0xff, 15: byte(r.Intn(2))}
	}
	return who(byte(r.Intn(4)))
}

// step does one thing to both, and fails where they part.
func step(t *testing.T, r *rand.Rand, s *Set, b *book) {
	t.Helper()
	i := r.Intn(len(b.ifs)+2) - 1
	switch r.Intn(10) {
	case 0:
		is(t, s.Down(i), b.turn(i, false))
	case 1, 2:
		is(t, s.Up(i), b.turn(i, true))
	case 3:
		now := r.Intn(1 << 40)
		h, e := s.Hello(now, i)
		want, we := b.next(now, i)
		if e != we || !packet.Same(h, want) {
			t.Fatalf("Hello(%d, %d): %v, %d, want %v, %d", now, i, h, e, want, we)
		}
	case 4:
		flushes(t, s, b.flush()...)
	default:
		to, l := whom(r), anyTlvs(r, 5)
		is(t, s.Queue(i, to, l...), b.queue(i, to, l))
	}
	for k := -1; k <= len(b.ifs); k++ {
		if s.Waiting(k) != b.waiting(k) || s.IsUp(k) != (b.why(k) == api.OK) {
			t.Fatalf("%d: %d wait, up %v, want %d, error %d", k, s.Waiting(k), s.IsUp(k), b.waiting(k), b.why(k))
		}
	}
}

func TestByHand(t *testing.T) { // P14.1 to P14.5
	for seed := range int64(300) {
		r := rand.New(rand.NewSource(seed))
		ifs := anyIfs(r)
		s, b := New(ifs...), newBook(ifs)
		for range 150 {
			step(t, r, s, b)
		}
		for i, c := range ifs {
			k, ok := s.Find(c.Name)
			first := slices.IndexFunc(ifs, func(o api.IfConf) bool { return o.Name == c.Name })
			if got, e := s.Conf(i); got != c || e != api.OK || k != first || !ok {
				t.Fatalf("%d: %v, %d, found at %d", i, got, e, k)
			}
		}
	}
}

// TestEachIsSaidOnce reads the packets back, of scripts in which no interface goes down.
func TestEachIsSaidOnce(t *testing.T) { // P14.6
	type where struct {
		i  int
		to api.Addr
	}
	for seed := range int64(200) {
		r := rand.New(rand.NewSource(seed))
		s := started(t)
		given, got := map[where][]api.Tlv{}, map[where][]api.Tlv{}
		for range 80 {
			w := where{r.Intn(3), whom(r)}
			l := anyTlvs(r, 6)
			if s.Queue(w.i, w.to, l...) == api.OK {
				given[w] = append(given[w], l...)
			}
			if r.Intn(20) == 0 {
				read(t, s.Flush(), func(i int, to api.Addr, l []api.Tlv) { got[where{i, to}] = append(got[where{i, to}], l...) })
			}
		}
		read(t, s.Flush(), func(i int, to api.Addr, l []api.Tlv) { got[where{i, to}] = append(got[where{i, to}], l...) })
		for w, l := range given {
			if !slices.EqualFunc(got[w], l, packet.Same) {
				t.Fatalf("seed %d, %v: %v, want %v", seed, w, got[w], l)
			}
			delete(got, w)
		}
		if len(got) > 0 {
			t.Fatalf("seed %d: packets that nobody asked for: %v", seed, got)
		}
	}
}

// read tells what each packet says, and fails where one has no room on its interface, or says nothing.
func read(t *testing.T, sent []api.Sent, tell func(i int, to api.Addr, l []api.Tlv)) {
	t.Helper()
	for _, p := range sent {
		c := faces()[p.If]
		l, e := packet.Parse(c.Addr, p.P)
		if e != api.OK || len(l) == 0 || len(p.P) > c.Mtu {
			t.Fatalf("%v: %v, %d", p, l, e)
		}
		tell(p.If, p.To, l)
	}
}

func TestAnyNumbers(t *testing.T) { // rule 1: no call panics, of interfaces that may not be neither
	edges := []int{math.MinInt, -65536, -1, 0, 1, 63, 64, 65535, 65540, 1 << 40, math.MaxInt}
	for seed := range int64(300) {
		r := rand.New(rand.NewSource(seed))
		n := func() int { return edges[r.Intn(len(edges))] }
		var ifs []api.IfConf
		for range 1 + r.Intn(3) {
			ifs = append(ifs, api.IfConf{Kind: n(), Cost: n(), Hello: n(), Update: n(), Mtu: n(), Rtt: api.Rtt{On: r.Intn(2) == 0, Min: n(), Max: n(), Cost: n(), Decay: n()}})
		}
		s := New(ifs...)
		for range 40 {
			i := r.Intn(4)
			if r.Intn(4) == 0 {
				i = n()
			}
			s.Up(i)
			h, _ := s.Hello(n(), i)
			s.Queue(i, whom(r), h, api.Tlv{Type: uint8(r.Int()), Pair: api.Pair{Dst: api.Prefix{Len: n()}}, Stamps: make([]uint32, r.Intn(4))})
			s.Queue(i, whom(r), h)
			s.Waiting(i)
			s.Conf(i)
			if r.Intn(5) == 0 {
				s.Flush()
				s.Down(i)
			}
		}
	}
}
