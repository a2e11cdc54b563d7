package announce

import (
	"bytes"
	"math/rand"
	"reflect"
	"slices"
	"testing"

	"culvert/addr"
	"culvert/api"
	"culvert/packet"
)

// sheet is a second reading: all updates that were said on an interface, of which the last one of a pair counts (P21.6).
type sheet struct {
	c    api.IfConf
	said []api.Tlv
}

func mapped(p api.Prefix) bool {
	return p.Len >= 96 && bytes.Equal(p.A[:12], []byte{0, 0, 0, 0, 0, 0, 0, 0, 0, 0, 0xff, 0xff})
}

func (s *sheet) can(p api.Pair) bool {
	if addr.CheckPair(p) != api.OK {
		return false
	}
	return !mapped(p.Dst) || s.c.Addr4 != api.Addr{}
}

func (s *sheet) say(t api.Tlv) api.Tlv {
	t.Type, t.Interval = api.TypeUpdate, uint16(min(65535, s.c.Update/10))
	s.said = append(s.said, t)
	return t
}

func (s *sheet) isTold(p api.Pair) bool {
	for _, t := range slices.Backward(s.said) {
		if t.Pair == p {
			return t.Metric < api.Infinity
		}
	}
	return false
}

func (s *sheet) told() []api.Pair {
	var l []api.Pair
	for _, t := range s.said {
		if s.isTold(t.Pair) && !slices.Contains(l, t.Pair) {
			l = append(l, t.Pair)
		}
	}
	slices.SortFunc(l, addr.ComparePair)
	return l
}

// one is what is said of an offer; asked tells whether somebody asked for it.
func (s *sheet) one(o api.Offer, asked bool) (api.Tlv, bool) {
	if o.Metric < api.Infinity && s.can(o.Pair) {
		hop := s.c.Addr
		if mapped(o.Pair.Dst) {
			hop = s.c.Addr4
		}
		return s.say(api.Tlv{Seqno: o.Seqno, Metric: o.Metric, Id: o.Id, Addr: hop, Pair: o.Pair}), true
	}
	if s.isTold(o.Pair) || asked && addr.CheckPair(o.Pair) == api.OK {
		return s.say(api.Tlv{Seqno: o.Seqno, Metric: api.Infinity, Pair: o.Pair}), true
	}
	return api.Tlv{}, false
}

func (s *sheet) tell(l ...api.Offer) []api.Tlv {
	var out []api.Tlv
	for _, o := range l {
		if t, is := s.one(o, false); is {
			out = append(out, t)
		}
	}
	return out
}

func (s *sheet) withdraw() []api.Tlv {
	var out []api.Tlv
	for _, p := range s.told() {
		out = append(out, s.say(api.Tlv{Metric: api.Infinity, Pair: p}))
	}
	return out
}

// somePairs are a few pairs, of both families, of which some may not be.
func somePairs() []api.Pair {
	l := pairs("::/0", "2001:db8::/32", "2001:db8::/32 from 2001:db8:1::/48", "::/96", "0.0.0.0/0", "10.0.0.0/8", "10.0.0.0/8 from 1.0.0.0/8", "10.1.0.0/16", "10.0.0.1/32")
	return append(l, wrong()...)
}

func someOffer(r *rand.Rand, pool []api.Pair) api.Offer {
	o := api.Offer{Pair: pool[r.Intn(len(pool))], Id: api.RouterId{7: byte(1 + r.Intn(3))}, Seqno: uint16(r.Intn(4)), Metric: uint16(r.Intn(65535))}
	if r.Intn(2) == 0 {
		o.Metric = []uint16{0, 65534, api.Infinity, api.Infinity, api.Infinity}[r.Intn(5)]
	}
	return o
}

func someOffers(r *rand.Rand, pool []api.Pair) []api.Offer {
	var l []api.Offer
	for range r.Intn(6) {
		l = append(l, someOffer(r, pool))
	}
	return l
}

// play plays one random script to a Book and to its second reading, and counts what came about.
func play(t *testing.T, r *rand.Rand, count map[string]int) {
	ifs := []api.IfConf{both(), lone(), both()}
	ifs[2].Update = 10 * (1 + r.Intn(70000))
	b := New(ifs...)
	sheets := []*sheet{{c: ifs[0]}, {c: ifs[1]}, {c: ifs[2]}}
	pool := somePairs()
	for range 60 {
		i := r.Intn(3)
		s := sheets[i]
		switch r.Intn(10) {
		case 0:
			want := s.withdraw()
			same(t, b.Withdraw(i), want...)
			count["withdrawn"] += len(want)
		case 1:
			k := r.Intn(3)
			want := len(s.told())
			if k != i {
				want += len(sheets[k].told())
			}
			if got := b.Forget(i, -1, k, 3, i); got != want {
				t.Fatalf("forgot %d, want %d", got, want)
			}
			s.said, sheets[k].said = nil, nil
			count["forgotten"] += want
		case 2, 3, 4:
			o := someOffer(r, pool)
			got, ok := b.Answer(i, o)
			want, is := s.one(o, true)
			if !packet.Same(got, want) || ok != is {
				t.Fatalf("Answer(%d, %v) = %v, %v, want %v, %v", i, o, got, ok, want, is)
			}
			count["answered"]++
		default:
			l := someOffers(r, pool)
			want := s.tell(l...)
			same(t, b.Tell(i, l...), want...)
			for _, x := range want {
				count[map[bool]string{true: "taken back", false: "said"}[x.Metric == api.Infinity]]++
			}
		}
		check(t, b, sheets, pool)
	}
}

// check holds what a Book answers against its second reading.
func check(t *testing.T, b *Book, sheets []*sheet, pool []api.Pair) {
	t.Helper()
	for i, s := range sheets {
		if got, want := b.Told(i), s.told(); !slices.Equal(got, want) {
			t.Fatalf("told on %d: %v, want %v", i, got, want)
		}
		for _, p := range pool {
			if b.Can(i, p) != s.can(p) {
				t.Fatalf("Can(%d, %v) = %v", i, p, b.Can(i, p))
			}
		}
	}
}

func TestScriptsByHand(t *testing.T) { // P21.1 to P21.6
	r := rand.New(rand.NewSource(21))
	count := map[string]int{}
	for range 400 {
		play(t, r, count)
	}
	for what, least := range map[string]int{"withdrawn": 3000, "forgotten": 3000, "answered": 5000, "said": 5000, "taken back": 800} {
		if count[what] < least {
			t.Errorf("too little came about: %d %s", count[what], what)
		}
	}
}

func TestTheSameCallsTellTheSame(t *testing.T) { // rule 4
	r := rand.New(rand.NewSource(4))
	l := someOffers(r, somePairs())
	for len(l) < 60 {
		l = append(l, someOffers(r, somePairs())...)
	}
	told := func() ([]api.Tlv, []api.Pair, []api.Tlv) {
		b := New(both())
		return b.Tell(0, l...), b.Told(0), b.Withdraw(0)
	}
	a, p, w := told()
	for range 50 {
		x, y, z := told()
		if !reflect.DeepEqual(a, x) || !slices.Equal(p, y) || !reflect.DeepEqual(w, z) {
			t.Fatal("one script, two tales")
		}
	}
}

func TestManyPairsAreQuick(t *testing.T) { // what an update costs does not grow with what was told
	b := New(both())
	o := offer("10.0.0.0/8", 1, 1)
	for n := range 1 << 18 {
		o.Pair.Dst = api.Prefix{A: api.Addr{10: 0xff, 11: 0xff, 12: 10, 13: byte(n >> 16), 14: byte(n >> 8), 15: byte(n)}, Len: 128}
		b.Tell(0, o)
	}
	if n := len(b.Withdraw(0)); n != 1<<18 || len(b.Told(0)) != 0 {
		t.Fatal(n)
	}
}
