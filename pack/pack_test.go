package pack

import (
	"bytes"
	"encoding/hex"
	"slices"
	"strings"
	"testing"

	"culvert/addr"
	"culvert/api"
	"culvert/packet"
)

// Sources of packets, and next hops.
var (
	local = ip("fe80::1")
	four  = ip("10.0.0.1")
	hop4  = ip("10.0.0.9")
	hop6  = ip("2001:db8::9")
	near  = ip("fe80::9")
)

var (
	idA = api.RouterId([]byte("abcdefgh"))
	idB = api.RouterId([]byte("abcdefgi"))
)

// The pieces that tell these.
const (
	routerA  = "06 0a 0000 6162636465666768"
	routerB  = "06 0a 0000 6162636465666769"
	tellFour = "07 06 01 00 0a000001"
	tellHop4 = "07 06 01 00 0a000009"
	tellHop6 = "07 12 02 00 20010db8 00000000 00000000 00000009"
	tellNear = "07 0a 03 00 00000000 00000009"
	tellHere = "07 0a 03 00 00000000 00000001"
)

// bin is the bytes that hexadecimal digits say; blanks are passed over.
func bin(l ...string) []byte {
	b, err := hex.DecodeString(strings.ReplaceAll(strings.Join(l, ""), " ", ""))
	if err != nil {
		panic(err)
	}
	return b
}

// whole is a packet of these pieces.
func whole(pieces ...string) []byte {
	b := bin(pieces...)
	return append([]byte{42, 2, byte(len(b) >> 8), byte(len(b))}, b...)
}

func ip(s string) api.Addr {
	a, e := addr.Parse(s)
	if e != api.OK {
		panic(s)
	}
	return a
}

func pair(s string) api.Pair {
	p, e := addr.ParsePair(s)
	if e != api.OK {
		panic(s)
	}
	return p
}

// way is an update of a pair through a next hop.
func way(s string, id api.RouterId, hop api.Addr) api.Tlv {
	return api.Tlv{Type: api.TypeUpdate, Interval: 0x102, Seqno: 0x304, Metric: 0x506, Id: id, Addr: hop, Pair: pair(s)}
}

// gone is an update that takes a pair back.
func gone(s string) api.Tlv {
	return api.Tlv{Type: api.TypeUpdate, Interval: 0x102, Seqno: 0x304, Metric: api.Infinity, Pair: pair(s)}
}

// ack is a Tlv whose piece has 4 bytes.
func ack(n int) api.Tlv { return api.Tlv{Type: api.TypeAck, Nonce: uint16(n)} }

func acks(n int) []api.Tlv {
	var l []api.Tlv
	for i := range n {
		l = append(l, ack(i))
	}
	return l
}

// wantPackets fails unless Pack makes just these packets, which say just l.
func wantPackets(t *testing.T, src api.Addr, mtu int, l []api.Tlv, want ...[]byte) {
	t.Helper()
	got, e := Pack(src, mtu, l...)
	if e != api.OK || !slices.EqualFunc(got, want, bytes.Equal) {
		t.Errorf("Pack(%v, %d, %+v) = %x, %d, want %x", src, mtu, l, got, e, want)
	}
	wantSaid(t, src, got, l)
}

// wantSaid fails unless these packets, one behind the other, say l.
func wantSaid(t *testing.T, src api.Addr, packets [][]byte, l []api.Tlv) {
	t.Helper()
	var said []api.Tlv
	for _, p := range packets {
		m, e := packet.Parse(src, p)
		if e != api.OK {
			t.Errorf("Parse of %x: %d", p, e)
		}
		said = append(said, m...)
	}
	if !slices.EqualFunc(said, l, packet.Same) {
		t.Errorf("%x say %+v, want %+v", packets, said, l)
	}
}

// wantError fails unless Pack has that error, and nothing else.
func wantError(t *testing.T, src api.Addr, mtu int, want api.Errno, l ...api.Tlv) {
	t.Helper()
	if got, e := Pack(src, mtu, l...); e != want || len(got) != 0 {
		t.Errorf("Pack(%v, %d, %+v) = %x, %d, want %d", src, mtu, l, got, e, want)
	}
}

// some is Tlvs and their pieces. Those that need a router and a next hop are of idA and, by family, hop4 or hop6.
var some = []struct {
	t    api.Tlv
	want string
}{
	{api.Tlv{Type: 2, Nonce: 0x1234, Interval: 0x5678}, "02 06 0000 1234 5678"},
	{api.Tlv{Type: 2}, "02 06 0000 0000 0000"},
	{api.Tlv{Type: 3, Nonce: 0x1234}, "03 02 1234"},
	{api.Tlv{Type: 3, Nonce: 65535}, "03 02 ffff"},

	{api.Tlv{Type: 4, Seqno: 5, Interval: 100}, "04 06 0000 0005 0064"},
	{api.Tlv{Type: 4, Seqno: 0xfedc, Interval: 0xba98, Unicast: true}, "04 06 8000 fedc ba98"},
	{api.Tlv{Type: 4, Seqno: 1, Interval: 2, Stamps: []uint32{0x12345678}}, "04 0c 0000 0001 0002 03 04 12345678"},
	{api.Tlv{Type: 4, Unicast: true, Stamps: []uint32{0}}, "04 0c 8000 0000 0000 03 04 00000000"},
	{api.Tlv{Type: 4, Stamps: []uint32{}}, "04 06 0000 0000 0000"},

	{api.Tlv{Type: 5, Rxcost: 0x102, Interval: 0x304, All: true}, "05 06 00 00 0102 0304"},
	{api.Tlv{Type: 5, Rxcost: 0x102, Interval: 0x304, All: true, Stamps: []uint32{1, 0xfffffffe}}, "05 10 00 00 0102 0304 03 08 00000001 fffffffe"},
	{api.Tlv{Type: 5, Rxcost: 0x102, Interval: 0x304, Addr: ip("10.0.2.3")}, "05 0a 01 00 0102 0304 0a000203"},
	{api.Tlv{Type: 5, Rxcost: 0x102, Interval: 0x304, Addr: ip("254.128.0.0"), Stamps: []uint32{0, 0}}, "05 14 01 00 0102 0304 fe800000 03 08 00000000 00000000"},
	{api.Tlv{Type: 5, Rxcost: 65535, Interval: 65535, Addr: ip("1:203:405:607:809:a0b:c0d:e0f")}, "05 16 02 00 ffff ffff 000102030405060708090a0b0c0d0e0f"},
	{api.Tlv{Type: 5, Addr: ip("fe80::1011:1213:1415:1617"), Stamps: []uint32{7, 8}}, "05 18 03 00 0000 0000 1011121314151617 03 08 00000007 00000008"},
	{api.Tlv{Type: 5, Addr: ip("fe80::")}, "05 0e 03 00 0000 0000 0000000000000000"},
	{api.Tlv{Type: 5, Addr: ip("fe80::ffff")}, "05 0e 03 00 0000 0000 000000000000ffff"},
	{api.Tlv{Type: 5, Addr: ip("fe80::8000:0:0:0")}, "05 0e 03 00 0000 0000 8000000000000000"},
	{api.Tlv{Type: 5, Addr: ip("fe80::ffff:ffff:ffff:ffff")}, "05 0e 03 00 0000 0000 ffffffffffffffff"},
	{api.Tlv{Type: 5, Addr: ip("fe80:0:0:1::2")}, "05 16 02 00 0000 0000 fe80000000000001 0000000000000002"},
	{api.Tlv{Type: 5, Addr: ip("fe80:100::2")}, "05 16 02 00 0000 0000 fe80010000000000 0000000000000002"},
	{api.Tlv{Type: 5, Addr: ip("fe81::2")}, "05 16 02 00 0000 0000 fe81000000000000 0000000000000002"},
	{api.Tlv{Type: 5, Addr: ip("ff80::2")}, "05 16 02 00 0000 0000 ff80000000000000 0000000000000002"},
	{api.Tlv{Type: 5}, "05 16 02 00 0000 0000 00000000000000000000000000000000"},

	{api.Tlv{Type: 8, Interval: 0x102, Seqno: 0x304, Metric: 65535, All: true}, "08 0a 00 00 00 00 0102 0304 ffff"},
	{way("10.0.0.0/8", idA, hop4), "08 0b 01 00 08 00 0102 0304 0506 0a"},
	{way("10.128.0.0/9", idA, hop4), "08 0c 01 00 09 00 0102 0304 0506 0a80"},
	{way("0.0.0.0/0", idA, hop4), "08 0a 01 00 00 00 0102 0304 0506"},
	{way("10.1.2.3/32", idA, hop4), "08 0e 01 00 20 00 0102 0304 0506 0a010203"},
	{way("10.1.2.2/31", idA, hop4), "08 0e 01 00 1f 00 0102 0304 0506 0a010202"},
	{way("10.1.2.0/25 from 1.2.0.0/17", idA, hop4), "08 14 01 00 19 00 0102 0304 0506 0a010200 80 04 11 010200"},
	{way("0.0.0.0/0 from 0.0.0.0/1", idA, hop4), "08 0e 01 00 00 00 0102 0304 0506 80 02 01 00"},
	{way("::/0", idA, hop6), "08 0a 02 00 00 00 0102 0304 0506"},
	{way("2001:db8::/32", idA, hop6), "08 0e 02 00 20 00 0102 0304 0506 20010db8"},
	{way("2001:db8::/33", idA, hop6), "08 0f 02 00 21 00 0102 0304 0506 20010db800"},
	{way("fe80::/64", idA, hop6), "08 12 02 00 40 00 0102 0304 0506 fe80000000000000"},
	{way("2001:db8::1/128 from 2001:db8::/127", idA, hop6), "08 2d 02 00 80 00 0102 0304 0506 20010db8000000000000000000000001 80 11 7f 20010db8000000000000000000000000"},
	{way("::/0 from 8000::/1", idA, hop6), "08 0e 02 00 00 00 0102 0304 0506 80 02 01 80"},
	{way("::/96", idA, hop6), "08 16 02 00 60 00 0102 0304 0506 000000000000000000000000"},
	{way("::fffe:0:0/95", idA, hop6), "08 16 02 00 5f 00 0102 0304 0506 00000000000000000000fffe"},
	{way("::ffff:0:0/96", idA, hop4), "08 0a 01 00 00 00 0102 0304 0506"},
	{gone("10.0.0.0/8"), "08 0b 01 00 08 00 0102 0304 ffff 0a"},
	{gone("2001:db8::/32 from ::/0"), "08 0e 02 00 20 00 0102 0304 ffff 20010db8"},
	{gone("2001:db8::/32 from 2001::/16"), "08 13 02 00 20 00 0102 0304 ffff 20010db8 80 03 10 2001"},

	{api.Tlv{Type: 9, All: true}, "09 02 00 00"},
	{api.Tlv{Type: 9, Pair: pair("::/0")}, "09 02 02 00"},
	{api.Tlv{Type: 9, Pair: pair("0.0.0.0/0")}, "09 02 01 00"},
	{api.Tlv{Type: 9, Pair: pair("10.1.0.0/16")}, "09 04 01 10 0a01"},
	{api.Tlv{Type: 9, Pair: pair("10.1.0.0/16 from 0.0.0.0/0")}, "09 04 01 10 0a01"},
	{api.Tlv{Type: 9, Pair: pair("10.1.0.0/16 from 1.2.3.4/32")}, "09 0b 01 10 0a01 80 05 20 01020304"},
	{api.Tlv{Type: 9, Pair: pair("2001:db8::/31 from 2001:db8::1/128")}, "09 19 02 1f 20010db8 80 11 80 20010db8000000000000000000000001"},

	{api.Tlv{Type: 10, Seqno: 0x102, Hops: 3, Id: idA, Pair: pair("10.1.2.3/32")}, "0a 12 01 20 0102 03 00 6162636465666768 0a010203"},
	{api.Tlv{Type: 10, Seqno: 0x102, Hops: 1, Id: idA, Pair: pair("10.0.0.0/7 from 1.0.0.0/8")}, "0a 13 01 07 0102 01 00 6162636465666768 0a 80 02 08 01"},
	{api.Tlv{Type: 10, Seqno: 65535, Hops: 255, Id: api.RouterId([]byte("\xff\xff\xff\xff\xff\xff\xff\xff")), Pair: pair("::/0")}, "0a 0e 02 00 ffff ff 00 ffffffffffffffff"},
	{api.Tlv{Type: 10, Hops: 64, Id: api.RouterId{7: 1}, Pair: pair("2001:db8:8000::/33 from 2001::/16")}, "0a 18 02 21 0000 40 00 0000000000000001 20010db880 80 03 10 2001"},
}

// front is what stands in front of a Tlv of some in a packet from local.
func front(t api.Tlv) []string {
	switch {
	case t.Type != api.TypeUpdate || t.Metric == api.Infinity:
		return nil
	case t.Addr == hop4:
		return []string{routerA, tellHop4}
	}
	return []string{routerA, tellHop6}
}

func TestThePieceOfEachType(t *testing.T) { // P7.1
	for _, x := range some {
		wantPackets(t, local, 1500, []api.Tlv{x.t}, whole(append(front(x.t), x.want)...))
	}
}

func TestSizeOfEachType(t *testing.T) { // P7.1
	for _, x := range some {
		if got := Size(x.t); got != len(bin(x.want)) {
			t.Errorf("Size(%+v) = %d, want %d", x.t, got, len(bin(x.want)))
		}
	}
}

func TestSizeOfWhatCheckRefuses(t *testing.T) { // P7.1
	for _, x := range []api.Tlv{
		{},
		{Type: 1},
		{Type: 6},
		{Type: 7},
		{Type: 11},
		{Type: 255},
		{Type: 3, Interval: 1},
		{Type: 4, Stamps: []uint32{1, 2}},
		{Type: 5, Stamps: []uint32{1}},
		{Type: 5, All: true, Addr: hop4},
		{Type: 8, All: true},
		{Type: 8, Metric: 1, Pair: pair("::/0")},
		{Type: 8, Metric: 65535, Id: idA},
		{Type: 9, All: true, Pair: pair("10.0.0.0/8")},
		{Type: 10, Id: idA, Pair: pair("::/0")},
		{Type: 10, Hops: 1, Pair: pair("::/0")},
		{Type: 9, Pair: api.Pair{Dst: api.Prefix{Len: 129}}},
		{Type: 9, Pair: api.Pair{Dst: api.Prefix{Len: -1}}},
		{Type: 9, Pair: api.Pair{Dst: api.Prefix{A: api.Addr{15: 1}, Len: 127}}},
		{Type: 9, Pair: api.Pair{Dst: addr.Any(4)}},
	} {
		if got := Size(x); got != 0 {
			t.Errorf("Size(%+v) = %d", x, got)
		}
	}
}

func TestSizeIsOfThePieceAlone(t *testing.T) { // P7.1: not of what stands in front, and whether that can be told
	for _, hop := range []api.Addr{{}, local, hop6, hop4} {
		if got := Size(way("10.0.0.0/8", idA, hop)); got != 13 {
			t.Errorf("through %v: %d", hop, got)
		}
	}
}

func TestEveryPlen(t *testing.T) { // P7.1
	ones := bytes.Repeat([]byte{255}, 16)
	for plen := range 129 {
		p, _ := addr.Of(api.Addr(ones), plen)
		b := slices.Clone(p.A[:(plen+7)/8])
		l := []api.Tlv{{Type: 9, Pair: api.Pair{Dst: p, Src: p}}}
		want := slices.Concat([]byte{9, byte(2 + len(b)), 2, byte(plen)}, b)
		if plen > 0 {
			want[1] += byte(3 + len(b))
			want = slices.Concat(want, []byte{128, byte(1 + len(b)), byte(plen)}, b)
		}
		wantPackets(t, local, 64, l, whole(hex.EncodeToString(want)))
	}
	for plen := range 33 {
		p, _ := addr.Of(ip("255.255.255.255"), plen)
		b := p.A[12 : 12+(plen+7)/8]
		l := []api.Tlv{{Type: 9, Pair: api.Pair{Dst: p, Src: addr.Any(4)}}}
		want := slices.Concat([]byte{9, byte(2 + len(b)), 1, byte(plen)}, b)
		wantPackets(t, four, 64, l, whole(hex.EncodeToString(want)))
	}
}

func TestWhatStandsInFront(t *testing.T) { // P7.2
	const up4, up6 = "08 0b 01 00 08 00 0102 0304 0506 0a", "08 0a 02 00 00 00 0102 0304 0506"
	const back4, back6 = "08 0b 01 00 08 00 0102 0304 ffff 0a", "08 0a 02 00 00 00 0102 0304 ffff"
	way4 := func(id api.RouterId, hop api.Addr) api.Tlv { return way("10.0.0.0/8", id, hop) }
	way6 := func(id api.RouterId, hop api.Addr) api.Tlv { return way("::/0", id, hop) }
	for _, x := range []struct {
		what string
		src  api.Addr
		l    []api.Tlv
		want []string
	}{
		{"the first through src", local, []api.Tlv{way6(idA, local)}, []string{routerA, up6}},
		{"the first through src of IPv4", four, []api.Tlv{way4(idA, four)}, []string{routerA, up4}},
		{"the first through another one", local, []api.Tlv{way6(idA, near)}, []string{routerA, tellNear, up6}},
		{"the first through another one of IPv4", four, []api.Tlv{way4(idA, hop4)}, []string{routerA, tellHop4, up4}},
		{"the first of the other family", local, []api.Tlv{way4(idA, four)}, []string{routerA, tellFour, up4}},
		{"the first of the other family of IPv4", four, []api.Tlv{way6(idA, local)}, []string{routerA, tellHere, up6}},
		{"the zero address is src", api.Addr{}, []api.Tlv{way6(idA, api.Addr{})}, []string{routerA, up6}},
		{"the zero address is not told by none", four, []api.Tlv{way6(idA, api.Addr{})}, []string{routerA, "07 12 02 00", strings.Repeat("00", 16), up6}},
		{"of the same router and next hop", local, []api.Tlv{way6(idA, near), way6(idA, near)}, []string{routerA, tellNear, up6, up6}},
		{"of another router", local, []api.Tlv{way6(idA, near), way6(idB, near)}, []string{routerA, tellNear, up6, routerB, up6}},
		{"of another next hop", local, []api.Tlv{way6(idA, near), way6(idA, hop6)}, []string{routerA, tellNear, up6, tellHop6, up6}},
		{"of both", local, []api.Tlv{way6(idA, near), way6(idB, hop6)}, []string{routerA, tellNear, up6, routerB, tellHop6, up6}},
		{"back to src", local, []api.Tlv{way6(idA, near), way6(idA, local)}, []string{routerA, tellNear, up6, tellHere, up6}},
		{"back to the first router", local, []api.Tlv{way6(idA, local), way6(idB, local), way6(idA, local)}, []string{routerA, up6, routerB, up6, routerA, up6}},
		{"of the other family", local, []api.Tlv{way6(idA, local), way4(idA, hop4)}, []string{routerA, up6, tellHop4, up4}},
		{"the families' next hops stand apart", local, []api.Tlv{way6(idA, near), way4(idA, hop4), way6(idA, near), way4(idA, hop4)}, []string{routerA, tellNear, up6, tellHop4, up4, up6, up4}},
		{"the families' next hops change apart", local, []api.Tlv{way4(idA, hop4), way6(idA, local), way4(idA, four), way6(idA, local)}, []string{routerA, tellHop4, up4, up6, tellFour, up4, up6}},
		{"the families have one router", four, []api.Tlv{way4(idA, four), way6(idB, near), way4(idB, four)}, []string{routerA, up4, routerB, tellNear, up6, up4}},
		{"what takes back needs neither", local, []api.Tlv{gone("::/0"), gone("10.0.0.0/8")}, []string{back6, back4}},
		{"what takes back changes neither", local, []api.Tlv{way6(idA, near), gone("::/0"), gone("10.0.0.0/8"), way6(idA, near)}, []string{routerA, tellNear, up6, back6, back4, up6}},
		{"requests need neither, and change neither", local, []api.Tlv{{Type: 10, Hops: 1, Id: idB, Pair: pair("::/0")}, way6(idA, local), {Type: 10, Hops: 1, Id: idB, Pair: pair("::/0")}, way6(idA, local)},
			[]string{"0a 0e 02 00 0000 01 00 6162636465666769", routerA, up6, "0a 0e 02 00 0000 01 00 6162636465666769", up6}},
		{"an IHU tells no next hop", local, []api.Tlv{{Type: 5, Addr: near}, way6(idA, near)}, []string{"05 0e 03 00 0000 0000 00000000 00000009", routerA, tellNear, up6}},
		{"a Metric of 65534 is below Infinity", local, []api.Tlv{{Type: 8, Metric: 65534, Id: idA, Addr: local, Pair: pair("::/0")}}, []string{routerA, "08 0a 02 00 00 00 0000 0000 fffe"}},
		{"a Metric of 0 too", local, []api.Tlv{{Type: 8, Id: idA, Addr: local, Pair: pair("::/0")}}, []string{routerA, "08 0a 02 00 00 00 0000 0000 0000"}},
	} {
		wantPackets(t, x.src, 1500, x.l, whole(x.want...))
		if t.Failed() {
			t.Fatal(x.what)
		}
	}
}

func TestEachPacketIsReadByItself(t *testing.T) { // P7.2, P7.3
	l := []api.Tlv{
		way("10.1.0.0/16", idA, hop4),
		way("10.2.0.0/16", idA, hop4),
		way("10.3.0.0/16", idA, hop4),
		way("::/0", idA, local),
	}
	const up = "08 0c 01 00 10 00 0102 0304 0506 "
	wantPackets(t, local, 64, l,
		whole(routerA, tellHop4, up+"0a01", up+"0a02"),
		whole(routerA, tellHop4, up+"0a03", "08 0a 02 00 00 00 0102 0304 0506"))
}

func TestAnAddrOfAnotherFamily(t *testing.T) { // P7.2
	for _, x := range []struct {
		pair string
		hop  api.Addr
		want api.Errno
	}{
		{"10.0.0.0/8", hop6, api.ErrArg},
		{"10.0.0.0/8", local, api.ErrArg},
		{"10.0.0.0/8", api.Addr{}, api.ErrArg},
		{"0.0.0.0/0", near, api.ErrArg},
		{"2001:db8::/32", hop4, api.ErrArg},
		{"::/0", four, api.ErrArg},
		{"::/96", four, api.ErrArg},
		{"::fffe:0:0/95", four, api.ErrArg}, // a piece less than the mapped part is of IPv6
		{"::ffff:0:0/96", near, api.ErrArg}, // and this is of IPv4
	} {
		for _, src := range []api.Addr{local, four, x.hop} {
			wantError(t, src, 1500, x.want, way(x.pair, idA, x.hop))
			wantError(t, src, 64, x.want, ack(1), way(x.pair, idA, x.hop), ack(2))
		}
	}
}

func TestATlvThatJustFits(t *testing.T) { // P7.3
	for _, x := range []struct {
		what string
		src  api.Addr
		l    []api.Tlv
		n    int // the bytes of one packet with all of l
		want int // how many bytes the packet ahead of the last one has, if n is more than may be
		last int // and the last one
	}{
		{"alone", local, append(acks(20), ack(1)), 4 + 80 + 4, 84, 8},
		{"of the same router and next hop", local, append(acks(5), way("10.0.0.0/8", idA, hop4), way("10.0.0.0/8", idA, hop4)), 4 + 20 + 12 + 8 + 13 + 13, 57, 37},
		{"behind the router", local, append(acks(15), way("::/0", idA, local)), 4 + 60 + 12 + 12, 64, 28},
		{"behind the next hop", local, append(acks(15), way("10.0.0.0/8", idA, hop4)), 4 + 60 + 12 + 8 + 13, 64, 37},
		{"behind another router", local, append(acks(2), way("10.0.0.0/8", idA, hop4), way("10.0.0.0/8", idB, hop4)), 4 + 8 + 12 + 8 + 13 + 12 + 13, 45, 37},
		{"behind another next hop", local, []api.Tlv{way("10.0.0.0/8", idA, hop4), way("10.0.0.0/8", idA, four), way("10.0.0.0/8", idA, hop4)}, 37 + 8 + 13 + 8 + 13, 58, 37},
		{"what stands in front of it is not what stands in front there", four, []api.Tlv{way("10.0.0.0/8", idA, hop4), way("10.0.0.0/8", idA, four), ack(1), ack(2), ack(3)}, 37 + 8 + 13 + 12, 66, 8},
	} {
		for mtu := x.n; mtu < x.n+3; mtu++ {
			if got, e := Pack(x.src, mtu, x.l...); e != api.OK || len(got) != 1 || len(got[0]) != x.n {
				t.Errorf("%s, %d: %x, %d", x.what, mtu, got, e)
			}
		}
		got, e := Pack(x.src, x.n-1, x.l...)
		if e != api.OK || len(got) != 2 || len(got[0]) != x.want || len(got[1]) != x.last {
			t.Errorf("%s, %d: %x, %d", x.what, x.n-1, got, e)
		}
		wantSaid(t, x.src, got, x.l)
	}
}

func TestARouterInFrontNeedsRoomToo(t *testing.T) { // P7.3: the update alone would fit, with what stands in front it does not
	l := append(acks(12), way("0.0.0.0/0", idA, four)) // 4, 48, 12 and 12
	for _, x := range []struct{ mtu, want int }{{64, 2}, {75, 2}, {76, 1}} {
		got, e := Pack(four, x.mtu, l...)
		if e != api.OK || len(got) != x.want {
			t.Errorf("%d: %x, %d", x.mtu, got, e)
		}
		wantSaid(t, four, got, l)
	}
	l = append(acks(10), way("0.0.0.0/0", idA, hop4)) // 4, 40, 12, 8 and 12
	for _, x := range []struct{ mtu, want int }{{64, 2}, {75, 2}, {76, 1}} {
		got, e := Pack(local, x.mtu, l...)
		if e != api.OK || len(got) != x.want {
			t.Errorf("%d: %x, %d", x.mtu, got, e)
		}
		wantSaid(t, local, got, l)
	}
}

func TestWhatIsNotTakenTellsNothing(t *testing.T) { // P7.2, P7.3: what stood in front of a Tlv that went into the next packet was not told in this one
	l := []api.Tlv{
		way("::/0", idA, local),                       // 4, 12 and 12
		way("2001:db8::/128", idB, local),             // 12 and 28: 68
		way("2001:db8::1/128", idB, local),            // 28
		{Type: 4, Seqno: 1}, {Type: 4, Unicast: true}, // 8 each: 88
	}
	got, e := Pack(local, 67, l...)
	if e != api.OK || len(got) != 3 || len(got[0]) != 28 || len(got[1]) != 44 || len(got[2]) != 60 {
		t.Errorf("%x, %d", got, e)
	}
	wantSaid(t, local, got, l)
}

func TestNoTlvIsPutAheadOfOthers(t *testing.T) { // P7.3: a short one that would fit an earlier packet stays behind
	long := api.Tlv{Type: 9, Pair: pair("2001:db8::1/128 from 2001:db8::2/128")} // 39 bytes
	l := []api.Tlv{long, long, ack(1), long, ack(2)}
	got, e := Pack(local, 64, l...)
	if e != api.OK || len(got) != 3 || len(got[0]) != 43 || len(got[1]) != 47 || len(got[2]) != 47 {
		t.Errorf("%x, %d", got, e)
	}
	wantSaid(t, local, got, l)
}

func TestMtu(t *testing.T) { // P7.3
	for _, x := range []struct {
		mtu  int
		want api.Errno
	}{
		{-1 << 63, api.ErrArg}, {-1, api.ErrArg}, {0, api.ErrArg}, {63, api.ErrArg},
		{64, api.OK}, {65, api.OK}, {65538, api.OK}, {65539, api.OK},
		{65540, api.ErrArg}, {1 << 20, api.ErrArg}, {1<<63 - 1, api.ErrArg},
	} {
		for _, l := range [][]api.Tlv{nil, {ack(1)}} {
			got, e := Pack(local, x.mtu, l...)
			if e != x.want || x.want == api.OK && len(got) != len(l) || x.want != api.OK && got != nil {
				t.Errorf("Pack of %d: %x, %d, want %d", x.mtu, got, e, x.want)
			}
		}
		b, e := New(local, x.mtu)
		if e != x.want || (b != nil) != (e == api.OK) {
			t.Errorf("New of %d: %v, %d, want %d", x.mtu, b, e, x.want)
		}
	}
}

func TestTheLongestPacket(t *testing.T) { // P7.3
	l := acks(16383 + 1) // of 65532 bytes and the one that goes beyond
	got, e := Pack(local, 65539, l...)
	if e != api.OK || len(got) != 2 || len(got[0]) != 4+65532 || len(got[1]) != 8 {
		t.Fatalf("%d packets, %d", len(got), e)
	}
	wantSaid(t, local, got, l)
	l = append(acks(16381), api.Tlv{Type: 9, Pair: pair("10.1.2.0/24")}, ack(1)) // 65524, 7 and 4: all that a packet may have
	got, e = Pack(local, 65539, l...)
	if e != api.OK || len(got) != 1 || len(got[0]) != 65539 || !bytes.HasPrefix(got[0], []byte{42, 2, 255, 255}) {
		t.Fatalf("%d packets, %d", len(got), e)
	}
	wantSaid(t, local, got, l)
	got, e = Pack(local, 65538, l...)
	if e != api.OK || len(got) != 2 || len(got[0]) != 65535 || len(got[1]) != 8 {
		t.Fatalf("%d packets, %d", len(got), e)
	}
	wantSaid(t, local, got, l)
}

func TestATlvForWhichThereIsNoRoom(t *testing.T) { // P7.3
	const host, from = "2001:db8::1/128", " from 2001:db8::/128"
	for _, x := range []struct {
		t    api.Tlv
		src  api.Addr
		room int // that it needs
	}{
		{way(host+from, idA, local), local, 4 + 12 + 47},
		{way(host+from, idA, near), local, 4 + 12 + 12 + 47},
		{way(host+from, idA, hop6), local, 4 + 12 + 20 + 47},
		{way(host, idA, hop6), local, 4 + 12 + 20 + 28},
		{way(host+" from 8000::/1", idA, hop6), local, 4 + 12 + 20 + 28 + 4},
		{way(host+" from 8000::/1", idA, hop6), hop6, 4 + 12 + 28 + 4},
		{way("10.1.2.3/32 from 1.2.3.4/32", idA, hop4), local, 4 + 12 + 8 + 16 + 7},
		{gone(host + from), local, 4 + 47},
		{api.Tlv{Type: 10, Hops: 1, Id: idA, Pair: pair(host + from)}, local, 4 + 51},
	} {
		for _, mtu := range []int{64, x.room - 1, x.room, x.room + 1, 1500} {
			if mtu < 64 {
				continue
			}
			want := api.OK
			if mtu < x.room {
				want = api.ErrMtu
			}
			got, e := Pack(x.src, mtu, x.t)
			if e != want || e == api.OK && (len(got) != 1 || len(got[0]) != x.room) || e != api.OK && got != nil {
				t.Errorf("Pack(%v, %d, %+v) = %x, %d, want %d", x.src, mtu, x.t, got, e, want)
			}
			got, e = Pack(x.src, mtu, ack(1), x.t, ack(2))
			if e != want || e == api.OK && len(got) == 0 || e != api.OK && got != nil {
				t.Errorf("Pack(%v, %d, .., %+v, ..) = %x, %d, want %d", x.src, mtu, x.t, got, e, want)
			}
		}
	}
}

func TestAWholePacketAheadDoesNotMakeRoom(t *testing.T) { // P7.3: though its router and its next hop are told there
	first := way("2001:db8::/32", idA, hop6)
	long := way("2001:db8::1/128 from 2001:db8::/128", idA, hop6) // 83 with what stands in front
	wantError(t, local, 82, api.ErrMtu, first, first, long)
	if got, e := Pack(local, 83, first, first, long); e != api.OK || len(got) != 2 {
		t.Errorf("%x, %d", got, e)
	}
}

func TestTheFirstErrorIsTold(t *testing.T) { // P7.3
	none := api.Tlv{Type: 99}
	bad := api.Tlv{Type: 9, Pair: api.Pair{Dst: api.Prefix{Len: 129}}}
	other := way("10.0.0.0/8", idA, hop6)
	long := way("2001:db8::1/128 from 2001:db8::/128", idA, hop6)
	otherAndLong := way("2001:db8::1/128 from 2001:db8::/128", idA, hop4) // 71 bytes
	badAndOther := way("10.0.0.0/8", idA, hop6)
	badAndOther.Pair.Src.Len = 200
	noneAndBad := api.Tlv{Type: 9, Nonce: 1, Pair: api.Pair{Dst: api.Prefix{Len: 129}}}
	for _, x := range []struct {
		mtu  int
		l    []api.Tlv
		want api.Errno
	}{
		{64, []api.Tlv{none}, api.ErrArg},
		{64, []api.Tlv{bad}, api.ErrPrefix},
		{64, []api.Tlv{noneAndBad}, api.ErrArg},
		{64, []api.Tlv{badAndOther}, api.ErrPrefix},
		{64, []api.Tlv{otherAndLong}, api.ErrArg},
		{64, []api.Tlv{long}, api.ErrMtu},
		{64, []api.Tlv{bad, none}, api.ErrPrefix},
		{64, []api.Tlv{none, bad}, api.ErrArg},
		{64, []api.Tlv{bad, other}, api.ErrPrefix},
		{64, []api.Tlv{other, bad}, api.ErrArg},
		{64, []api.Tlv{long, bad}, api.ErrMtu},
		{64, []api.Tlv{bad, long}, api.ErrPrefix},
		{64, []api.Tlv{long, other}, api.ErrMtu},
		{64, []api.Tlv{other, long}, api.ErrArg},
		{64, []api.Tlv{ack(1), long, none, bad}, api.ErrMtu},
		{64, []api.Tlv{ack(1), bad, none, long}, api.ErrPrefix},
		{82, []api.Tlv{long, bad}, api.ErrMtu},
		{83, []api.Tlv{long, bad}, api.ErrPrefix},
		{63, []api.Tlv{bad}, api.ErrArg},
		{63, []api.Tlv{long}, api.ErrArg},
		{65540, []api.Tlv{bad}, api.ErrArg},
	} {
		wantError(t, local, x.mtu, x.want, x.l...)
		wantError(t, local, x.mtu, x.want, slices.Concat(x.l, acks(3))...)
		if x.mtu >= 64 {
			wantError(t, local, x.mtu, x.want, slices.Concat(acks(40), x.l)...)
		}
	}
}

func TestOfNoTlvsNoPackets(t *testing.T) { // P7.3
	for _, l := range [][]api.Tlv{nil, {}} {
		if got, e := Pack(local, 64, l...); e != api.OK || len(got) != 0 {
			t.Errorf("%x, %d", got, e)
		}
	}
}

func TestExamplesOfTheChapter(t *testing.T) { // P7.1, P7.2, P7.3
	if Size(api.Tlv{Type: api.TypeHello}) != 8 || Size(way("10.0.0.0/8", idA, four)) != 13 {
		t.Error("Size")
	}
	got, e := Pack(four, 64, way("10.0.0.0/8", idA, four), way("11.0.0.0/8", idA, four))
	if e != api.OK || len(got) != 1 || bytes.Count(got[0], bin(routerA)) != 1 || len(got[0]) != 4+12+13+13 {
		t.Errorf("%x, %d", got, e)
	}
	wantError(t, four, 63, api.ErrArg)
}
