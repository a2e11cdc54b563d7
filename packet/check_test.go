package packet

import (
	"math"
	"slices"
	"strings"
	"testing"

	"culvert/api"
)

// fields sets each field of a Tlv to something, by its name.
var fields = []struct {
	name string
	set  func(t *api.Tlv)
}{
	{"Nonce", func(t *api.Tlv) { t.Nonce = 1 }},
	{"Interval", func(t *api.Tlv) { t.Interval = 256 }},
	{"Seqno", func(t *api.Tlv) { t.Seqno = 65535 }},
	{"Rxcost", func(t *api.Tlv) { t.Rxcost = 1 }},
	{"Metric", func(t *api.Tlv) { t.Metric = 1 }},
	{"Hops", func(t *api.Tlv) { t.Hops = 128 }},
	{"Unicast", func(t *api.Tlv) { t.Unicast = true }},
	{"All", func(t *api.Tlv) { t.All = true }},
	{"Id", func(t *api.Tlv) { t.Id = api.RouterId{7: 1} }},
	{"Addr", func(t *api.Tlv) { t.Addr = api.Addr{15: 1} }},
	{"Pair", func(t *api.Tlv) { t.Pair = pair("10.0.0.0/8 from 1.0.0.0/8") }},
	{"Stamps", func(t *api.Tlv) { t.Stamps = []uint32{0} }},
}

// fewest is of each kind a Tlv that Check takes, with as little as may be, and the fields that may be set on top of it: one by one, or all of them but All.
var fewest = []struct {
	t     api.Tlv
	named string
}{
	{api.Tlv{Type: 2}, "Nonce Interval"},
	{api.Tlv{Type: 3}, "Nonce"},
	{api.Tlv{Type: 4}, "Seqno Interval Unicast Stamps"},
	{api.Tlv{Type: 5}, "Rxcost Interval Addr All"},
	{api.Tlv{Type: 5, Stamps: []uint32{0, 0}}, "Rxcost Interval Addr All"},
	{api.Tlv{Type: 5, All: true}, "Rxcost Interval"},
	{api.Tlv{Type: 8, Id: api.RouterId{1}}, "Interval Seqno Metric Id Addr Pair"},
	{api.Tlv{Type: 8, Metric: 65534, Id: api.RouterId{1}}, "Interval Seqno Metric Id Addr Pair"},
	{api.Tlv{Type: 8, Metric: 65535}, "Interval Seqno Pair All"},
	{api.Tlv{Type: 8, Metric: 65535, All: true}, "Interval Seqno"},
	{api.Tlv{Type: 9}, "Pair All"},
	{api.Tlv{Type: 9, All: true}, ""},
	{api.Tlv{Type: 10, Hops: 1, Id: api.RouterId{1}}, "Seqno Hops Id Pair"},
}

func wantCheck(t *testing.T, x api.Tlv, want api.Errno) {
	t.Helper()
	if got := Check(x); got != want {
		t.Errorf("Check(%+v) = %d, want %d", x, got, want)
	}
}

func TestCheckOfEachField(t *testing.T) { // P6.5
	for _, c := range fewest {
		wantCheck(t, c.t, api.OK)
		for _, f := range fields {
			x := c.t
			f.set(&x)
			if Same(x, c.t) { // it was set so
				continue
			}
			want := api.ErrArg
			if slices.Contains(strings.Fields(c.named), f.name) {
				want = api.OK
			}
			wantCheck(t, x, want)
		}
	}
}

func TestCheckOfAllNamedFields(t *testing.T) { // P6.5
	for _, c := range fewest {
		x := c.t
		for _, f := range fields {
			if slices.Contains(strings.Fields(c.named), f.name) && f.name != "All" {
				f.set(&x)
			}
		}
		wantCheck(t, x, api.OK)
		for kind := range 256 { // what is fine of one kind is not of another one
			x.Type = uint8(kind)
			if x.Type != c.t.Type && c.named != "" && c.named != "Nonce" {
				wantCheck(t, x, api.ErrArg)
			}
		}
	}
}

func TestCheckOfEveryType(t *testing.T) { // P6.5
	for kind := range 256 {
		want := api.ErrArg
		switch kind {
		case 2, 3, 4, 5, 9:
			want = api.OK
		}
		wantCheck(t, api.Tlv{Type: uint8(kind)}, want)
		want = api.ErrArg
		if kind == 8 {
			want = api.OK
		}
		wantCheck(t, api.Tlv{Type: uint8(kind), Metric: 65535}, want)
	}
}

func TestCheckOfStamps(t *testing.T) { // P6.5
	for _, c := range fewest {
		for n := range 5 {
			x := c.t
			x.Stamps = make([]uint32, n)
			want := api.ErrArg
			if n == 0 || n == 1 && x.Type == 4 || n == 2 && x.Type == 5 {
				want = api.OK
			}
			wantCheck(t, x, want)
		}
	}
}

func TestCheckOfValues(t *testing.T) { // P6.5
	id, hop, way := api.RouterId{7: 1}, api.Addr{0: 1}, pair("10.0.0.0/8")
	for _, x := range []api.Tlv{
		{Type: 5, All: true, Addr: hop},
		{Type: 5, All: true, Addr: api.Addr{15: 1}, Stamps: []uint32{1, 2}},
		// Of an update of all.
		{Type: 8, All: true},
		{Type: 8, All: true, Metric: 65534},
		{Type: 8, All: true, Metric: 65534, Id: id},
		{Type: 8, All: true, Metric: 65535, Pair: way},
		{Type: 8, All: true, Metric: 65535, Pair: api.Pair{Src: api.Prefix{Len: 1}}},
		{Type: 8, All: true, Metric: 65535, Id: id},
		{Type: 8, All: true, Metric: 65535, Addr: hop},
		// Of another one with Infinity.
		{Type: 8, Metric: 65535, Pair: way, Id: id},
		{Type: 8, Metric: 65535, Pair: way, Addr: hop},
		{Type: 8, Metric: 65535, Pair: way, Id: id, Addr: hop},
		{Type: 8, Metric: 65535, Pair: way, Id: api.RouterId{255, 255, 255, 255, 255, 255, 255, 255}},
		// Of one below it.
		{Type: 8, Metric: 65534, Pair: way, Addr: hop},
		{Type: 8, Metric: 0, Pair: way, Addr: hop},
		{Type: 8, Metric: 1, Pair: way, Addr: hop, Id: api.RouterId{255, 255, 255, 255, 255, 255, 255, 255}},
		{Type: 9, All: true, Pair: way},
		{Type: 9, All: true, Pair: api.Pair{Src: api.Prefix{Len: 1}}},
		{Type: 10, Hops: 1, Pair: way},
		{Type: 10, Id: id, Pair: way},
		{Type: 10, Pair: way},
	} {
		wantCheck(t, x, api.ErrArg)
	}
	for _, x := range []api.Tlv{
		{Type: 5, All: true, Stamps: []uint32{1, 2}},
		{Type: 5, Addr: hop, Stamps: []uint32{1, 2}},
		{Type: 8, All: true, Metric: 65535, Interval: 1, Seqno: 2},
		{Type: 8, Metric: 65535, Pair: way},
		{Type: 8, Metric: 65534, Pair: way, Id: id, Addr: hop},
		{Type: 8, Pair: way, Id: api.RouterId{255, 255, 255, 255, 255, 255, 255, 254}},
		{Type: 8, Pair: way, Id: api.RouterId{127, 255, 255, 255, 255, 255, 255, 255}, Addr: hop},
		{Type: 9, Pair: way},
		{Type: 10, Hops: 255, Id: id, Pair: way},
		{Type: 10, Hops: 1, Id: api.RouterId{255, 255, 255, 255, 255, 255, 255, 255}},
	} {
		wantCheck(t, x, api.OK)
	}
}

// badPairs are pairs that addr.CheckPair refuses.
var badPairs = []api.Pair{
	{Dst: api.Prefix{Len: 129}},
	{Dst: api.Prefix{Len: -1}},
	{Dst: api.Prefix{Len: math.MaxInt}},
	{Dst: api.Prefix{Len: math.MinInt}},
	{Src: api.Prefix{Len: 129}},
	{Src: api.Prefix{Len: -1}},
	{Dst: api.Prefix{A: api.Addr{0: 1}, Len: 7}},
	{Src: api.Prefix{A: api.Addr{15: 1}, Len: 127}},
	{Dst: pair("10.0.0.0/8").Dst},
	{Dst: pair("10.0.0.0/8").Dst, Src: pair("2001::/16").Dst},
	{Dst: pair("2001::/16").Dst, Src: pair("0.0.0.0/0").Dst},
}

func TestCheckOfPairs(t *testing.T) { // P6.5
	id := api.RouterId{1}
	for _, bad := range badPairs {
		// Where it has a part.
		for _, x := range []api.Tlv{{Type: 8, Id: id}, {Type: 8, Metric: 65535}, {Type: 9}, {Type: 10, Hops: 1, Id: id}} {
			x.Pair = bad
			wantCheck(t, x, api.ErrPrefix)
		}
		// Where it has none.
		for _, x := range []api.Tlv{{Type: 2}, {Type: 3}, {Type: 4}, {Type: 5}, {Type: 5, All: true}, {Type: 8, Metric: 65535, All: true}, {Type: 9, All: true}} {
			x.Pair = bad
			wantCheck(t, x, api.ErrArg)
		}
		// Two errors at once.
		for _, x := range []api.Tlv{{}, {Type: 1}, {Type: 6}, {Type: 7}, {Type: 11}, {Type: 8}, {Type: 8, Metric: 65535, Id: id}, {Type: 8, Id: id, Nonce: 1}, {Type: 8, Id: id, Stamps: []uint32{1}}, {Type: 9, Hops: 1}, {Type: 9, Stamps: []uint32{1, 2}}, {Type: 10, Hops: 1}, {Type: 10, Id: id}, {Type: 10, Hops: 1, Id: id, All: true}} {
			x.Pair = bad
			wantCheck(t, x, api.ErrArg)
		}
	}
}

func TestCheckChangesNothing(t *testing.T) { // rule 3
	l := []uint32{1, 2, 3, 4}
	Check(api.Tlv{Type: 4, Stamps: l[:1]})
	Check(api.Tlv{Type: 5, Stamps: l[:2]})
	Same(api.Tlv{Stamps: l[:2]}, api.Tlv{Stamps: l[2:]})
	if !slices.Equal(l, []uint32{1, 2, 3, 4}) {
		t.Errorf("what was handed in has become %d", l)
	}
}

func wantSame(t *testing.T, a, b api.Tlv, want bool) {
	t.Helper()
	if Same(a, b) != want || Same(b, a) != want {
		t.Errorf("Same(%+v, %+v) is not %v", a, b, want)
	}
}

func TestSameOfEachField(t *testing.T) { // P6.6
	full := api.Tlv{Type: 1}
	for _, f := range fields {
		f.set(&full)
	}
	wantSame(t, api.Tlv{}, api.Tlv{}, true)
	wantSame(t, full, full, true)
	other := full
	other.Stamps = slices.Clone(full.Stamps)
	wantSame(t, full, other, true)
	for _, f := range fields {
		var x api.Tlv
		f.set(&x)
		wantSame(t, x, x, true)
		wantSame(t, x, api.Tlv{}, false)
	}
	for _, part := range []func(t *api.Tlv){
		func(t *api.Tlv) { t.Type = 2 },
		func(t *api.Tlv) { t.Nonce ^= 0x100 },
		func(t *api.Tlv) { t.Interval ^= 1 },
		func(t *api.Tlv) { t.Seqno ^= 1 },
		func(t *api.Tlv) { t.Rxcost ^= 0x8000 },
		func(t *api.Tlv) { t.Metric ^= 1 },
		func(t *api.Tlv) { t.Hops ^= 1 },
		func(t *api.Tlv) { t.Unicast = false },
		func(t *api.Tlv) { t.All = false },
		func(t *api.Tlv) { t.Id[0] = 1 },
		func(t *api.Tlv) { t.Id[7] = 2 },
		func(t *api.Tlv) { t.Addr[0] = 1 },
		func(t *api.Tlv) { t.Addr[15] = 2 },
		func(t *api.Tlv) { t.Pair.Dst.A[15] = 1 },
		func(t *api.Tlv) { t.Pair.Dst.Len++ },
		func(t *api.Tlv) { t.Pair.Src.A[0] = 1 },
		func(t *api.Tlv) { t.Pair.Src.Len-- },
		func(t *api.Tlv) { t.Stamps = nil },
		func(t *api.Tlv) { t.Stamps = []uint32{1} },
		func(t *api.Tlv) { t.Stamps = []uint32{0, 0} },
	} {
		x := full
		part(&x)
		wantSame(t, full, x, false)
	}
}

func TestSameOfStamps(t *testing.T) { // P6.6
	lists := [][]uint32{nil, {0}, {1}, {1 << 31}, {0, 0}, {0, 1}, {1, 0}, {1, 1}, {0, 0, 0}}
	for i, a := range lists {
		for k, b := range lists {
			wantSame(t, api.Tlv{Type: 5, Stamps: a}, api.Tlv{Type: 5, Stamps: slices.Clone(b)}, i == k)
		}
	}
	wantSame(t, api.Tlv{Stamps: []uint32{}}, api.Tlv{}, true)
	wantSame(t, api.Tlv{Stamps: make([]uint32, 1, 9)}, api.Tlv{Stamps: []uint32{0}}, true)
}
