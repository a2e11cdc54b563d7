package packet

import (
	"encoding/hex"
	"slices"
	"strings"
	"testing"

	"culvert/addr"
	"culvert/api"
)

// Sources of packets.
var (
	local = api.Addr{0: 0xfe, 1: 0x80, 15: 1}
	four  = api.Addr{10: 0xff, 11: 0xff, 12: 10, 15: 1}
)

// Pieces that stand ahead of others: a router, next hops of either family.
const (
	routerA = "06 0a 0000 6162636465666768"
	hop4    = "07 06 01 00 0a000009"
	hop6    = "07 12 02 00 20010db8 00000000 00000000 00000009"
)

var (
	idA   = api.RouterId([]byte("abcdefgh"))
	addr4 = address("10.0.0.9")
	addr6 = address("2001:db8::9")
)

// bin is the bytes that hexadecimal digits say; blanks are passed over.
func bin(s string) string {
	b, err := hex.DecodeString(strings.ReplaceAll(s, " ", ""))
	if err != nil {
		panic(err)
	}
	return string(b)
}

// digits is the other way round.
func digits(b string) string { return hex.EncodeToString([]byte(b)) }

// one is the digits of a byte.
func one(b byte) string { return digits(string([]byte{b})) }

// piece is the digits of a piece with that body.
func piece(kind uint8, body ...string) string {
	b := bin(strings.Join(body, ""))
	return digits(string([]byte{kind, byte(len(b))}) + b)
}

// whole is a packet of these pieces.
func whole(pieces ...string) []byte {
	b := bin(strings.Join(pieces, ""))
	return append([]byte{42, 2, byte(len(b) >> 8), byte(len(b))}, b...)
}

func address(s string) api.Addr {
	a, e := addr.Parse(s)
	if e != api.OK {
		panic(s)
	}
	return a
}

func pair(s string) api.Pair {
	p, e := addr.ParsePair(s)
	if e != api.OK {
		panic(s)
	}
	return p
}

// wantSaid fails unless these pieces, in a packet from src, say just that.
func wantSaid(t *testing.T, src api.Addr, pieces []string, want ...api.Tlv) {
	t.Helper()
	got, e := Parse(src, whole(pieces...))
	if e != api.OK || !slices.EqualFunc(got, want, Same) {
		t.Errorf("%s: %+v, %d, want %+v", strings.Join(pieces, " | "), got, e, want)
	}
	for _, x := range got {
		if e := Check(x); e != api.OK {
			t.Errorf("%s: Check(%+v) = %d", strings.Join(pieces, " | "), x, e)
		}
	}
}

// some is a piece of each kind that tells a Tlv, with just its bytes; what is passed over is not 0.
var some = []struct {
	kind uint8
	body string
	want api.Tlv
}{
	{2, "ffff 1234 5678", api.Tlv{Type: 2, Nonce: 0x1234, Interval: 0x5678}},
	{3, "1234", api.Tlv{Type: 3, Nonce: 0x1234}},
	{4, "0000 0005 0064", api.Tlv{Type: 4, Seqno: 5, Interval: 100}},
	{4, "ffff fedc ba98", api.Tlv{Type: 4, Seqno: 0xfedc, Interval: 0xba98, Unicast: true}},
	{5, "00 ff 0102 0304", api.Tlv{Type: 5, Rxcost: 0x102, Interval: 0x304, All: true}},
	{5, "01 ff 0102 0304 0a000203", api.Tlv{Type: 5, Rxcost: 0x102, Interval: 0x304, Addr: address("10.0.2.3")}},
	{5, "02 ff 0102 0304 000102030405060708090a0b0c0d0e0f", api.Tlv{Type: 5, Rxcost: 0x102, Interval: 0x304, Addr: address("1:203:405:607:809:a0b:c0d:e0f")}},
	{5, "02 00 ffff ffff 00000000000000000000000000000000", api.Tlv{Type: 5, Rxcost: 65535, Interval: 65535}},
	{5, "03 ff 0102 0304 1011121314151617", api.Tlv{Type: 5, Rxcost: 0x102, Interval: 0x304, Addr: address("fe80::1011:1213:1415:1617")}},
	{8, "00 00 00 00 0102 0304 ffff", api.Tlv{Type: 8, Interval: 0x102, Seqno: 0x304, Metric: 65535, All: true}},
	{8, "01 00 18 00 0102 0304 0506 0a0102", api.Tlv{Type: 8, Interval: 0x102, Seqno: 0x304, Metric: 0x506, Pair: pair("10.1.2.0/24"), Id: idA, Addr: addr4}},
	{8, "02 3f 20 00 0102 0304 0506 20010db8", api.Tlv{Type: 8, Interval: 0x102, Seqno: 0x304, Metric: 0x506, Pair: pair("2001:db8::/32"), Id: idA, Addr: addr6}},
	{8, "01 00 00 00 0102 0304 0000", api.Tlv{Type: 8, Interval: 0x102, Seqno: 0x304, Pair: pair("0.0.0.0/0"), Id: idA, Addr: addr4}},
	{8, "02 00 20 00 0102 0304 ffff 20010db8", api.Tlv{Type: 8, Interval: 0x102, Seqno: 0x304, Metric: 65535, Pair: pair("2001:db8::/32")}},
	{9, "00 00", api.Tlv{Type: 9, All: true}},
	{9, "01 10 0a01", api.Tlv{Type: 9, Pair: pair("10.1.0.0/16")}},
	{9, "02 40 20010db800010002", api.Tlv{Type: 9, Pair: pair("2001:db8:1:2::/64")}},
	{9, "02 00", api.Tlv{Type: 9, Pair: pair("::/0")}},
	{10, "01 20 0102 03 ff 6162636465666768 0a010203", api.Tlv{Type: 10, Seqno: 0x102, Hops: 3, Id: idA, Pair: pair("10.1.2.3/32")}},
	{10, "02 00 ffff ff ff ffffffffffffffff", api.Tlv{Type: 10, Seqno: 65535, Hops: 255, Id: api.RouterId([]byte("\xff\xff\xff\xff\xff\xff\xff\xff")), Pair: pair("::/0")}},
}

// ahead tells a router and both next hops, so that updates say something.
var ahead = []string{routerA, hop4, hop6}

func TestTypesWithJustTheirBytes(t *testing.T) { // P6.1
	for _, c := range some {
		wantSaid(t, local, append(ahead[:3:3], piece(c.kind, c.body)), c.want)
	}
}

func TestTypesWithFewerBytes(t *testing.T) { // P6.1
	for _, c := range some {
		b := bin(c.body)
		for n := range len(b) {
			wantSaid(t, local, append(ahead[:3:3], piece(c.kind, digits(b[:n]))))
		}
	}
}

// known tells which piece within a piece of that kind is known, with a body that may be.
func known(kind uint8) string {
	switch kind {
	case 4, 5:
		return "03 02 0102"
	case 8, 9, 10:
		return "80 02 08 01"
	}
	return ""
}

func TestTypesWithPiecesWithin(t *testing.T) { // P6.1, P6.3
	for _, c := range some {
		within := func(l ...string) []string { return append(ahead[:3:3], piece(c.kind, c.body, strings.Join(l, ""))) }
		for _, s := range []string{"00", "0000", "0100", "0103 ffffff", "0200", "7f02 8080", "00 0500 01017f 00", "4001ff 4001ff"} {
			wantSaid(t, local, within(s), c.want)
		}
		for _, s := range []string{"01", "7f", "80", "0101", "7f02 00", "00 0500 01", "8003 0801", "0100 0200 0301", "03", "0304 0102"} { // they end too early
			wantSaid(t, local, within(s))
		}
		for _, s := range []string{"8100", "ff00", "8101 00", "00 0500 9000", "ff00 0500", "8100 8100"} { // they must be known, and are not
			wantSaid(t, local, within(s))
			if known(c.kind) != "" {
				wantSaid(t, local, within(known(c.kind), s))
				wantSaid(t, local, within(s, known(c.kind)))
			}
		}
		if c.kind < 8 {
			wantSaid(t, local, within("8000"))
			wantSaid(t, local, within("8002 0801"))
		}
		if c.kind != 4 && c.kind != 5 { // a time says nothing here
			wantSaid(t, local, within("0308 0001020304050607"), c.want)
		}
	}
}

func TestPaddingAndOtherTypesSayNothing(t *testing.T) { // P6.1
	wantSaid(t, local, nil)
	wantSaid(t, local, []string{"00", "0000", "0100", "0103 010203"})
	for kind := range 256 {
		if kind == 0 || kind >= 2 && kind <= 10 {
			continue
		}
		for _, c := range some {
			wantSaid(t, local, append(ahead[:3:3], piece(uint8(kind), c.body)))
		}
		wantSaid(t, local, []string{piece(uint8(kind)), "0302 0007", "00", piece(uint8(kind), "ff"), "0302 0008"}, api.Tlv{Type: 3, Nonce: 7}, api.Tlv{Type: 3, Nonce: 8})
	}
}

func TestFlagsOfHello(t *testing.T) { // P6.1
	for bit := range 16 {
		flags := uint16(1) << bit
		want := api.Tlv{Type: 4, Seqno: 1, Interval: 2, Unicast: bit == 15}
		wantSaid(t, local, []string{piece(4, one(byte(flags>>8)), one(byte(flags)), "0001 0002")}, want)
		want.Unicast = bit != 15
		wantSaid(t, local, []string{piece(4, one(^byte(flags>>8)), one(^byte(flags)), "0001 0002")}, want)
	}
}

func TestStamps(t *testing.T) { // P6.1
	for _, c := range []struct {
		subs       string
		hello, ihu []uint32
	}{
		{"", nil, nil},
		{"0300", nil, nil},
		{"0303 010203", nil, nil},
		{"0304 01020304", []uint32{0x01020304}, nil},
		{"0304 00000000", []uint32{0}, nil},
		{"0305 fedcba98 ff", []uint32{0xfedcba98}, nil},
		{"0307 01020304 050607", []uint32{0x01020304}, nil},
		{"0308 01020304 fefdfcfb", []uint32{0x01020304}, []uint32{0x01020304, 0xfefdfcfb}},
		{"0308 00000000 00000000", []uint32{0}, []uint32{0, 0}},
		{"0309 01020304 05060708 09", []uint32{0x01020304}, []uint32{0x01020304, 0x05060708}},
		{"030c 01020304 05060708 090a0b0c", []uint32{0x01020304}, []uint32{0x01020304, 0x05060708}},
		{"0304 00000001 0304 00000002", []uint32{1}, nil},
		{"0303 000001 0304 00000002", []uint32{2}, nil},
		{"0304 00000001 0308 00000002 00000003", []uint32{1}, []uint32{2, 3}},
		{"0307 00000001 000000 0308 00000002 00000003", []uint32{1}, []uint32{2, 3}},
		{"0308 00000001 00000002 0308 00000003 00000004", []uint32{1}, []uint32{1, 2}},
		{"0404 00000001 00 0104 00000002 0308 00000003 00000004", []uint32{3}, []uint32{3, 4}},
	} {
		wantSaid(t, local, []string{piece(4, "0000 0001 0002", c.subs)}, api.Tlv{Type: 4, Seqno: 1, Interval: 2, Stamps: c.hello})
		wantSaid(t, local, []string{piece(5, "00 00 0001 0002", c.subs)}, api.Tlv{Type: 5, Rxcost: 1, Interval: 2, All: true, Stamps: c.ihu})
		wantSaid(t, local, []string{piece(5, "01 00 0001 0002 0a000009", c.subs)}, api.Tlv{Type: 5, Rxcost: 1, Interval: 2, Addr: addr4, Stamps: c.ihu})
	}
}

func TestEveryAe(t *testing.T) { // P6.1
	for ae := 3; ae < 256; ae++ {
		kind := one(byte(ae))
		zeros := "0000000000000000 0000000000000000"
		if ae > 3 {
			wantSaid(t, local, []string{piece(5, kind, "00 0001 0002")})
			wantSaid(t, local, []string{piece(5, kind, "00 0001 0002", zeros)})
			wantSaid(t, local, append(ahead[:3:3], piece(7, kind, "00", zeros), piece(8, "02 00 00 00 0001 0001 0001")), api.Tlv{Type: 8, Interval: 1, Seqno: 1, Metric: 1, Pair: pair("::/0"), Id: idA, Addr: addr6})
		}
		for _, plen := range []string{"00", "08", "40"} {
			wantSaid(t, local, append(ahead[:3:3], piece(8, kind, "00", plen, "00 0001 0002 0003", zeros)))
			wantSaid(t, local, append(ahead[:3:3], piece(8, kind, "c0", plen, "00 0001 0002 ffff", zeros), piece(8, "01 00 08 01 0001 0001 ffff")))
			wantSaid(t, local, []string{piece(9, kind, plen, zeros)})
			wantSaid(t, local, []string{piece(10, kind, plen, "0001 01 00 6162636465666768", zeros)})
		}
	}
}

func TestSeqnoReqOfAeAny(t *testing.T) { // P6.1
	wantSaid(t, local, []string{piece(10, "00 00 0001 01 00 6162636465666768")})
	wantSaid(t, local, []string{piece(10, "00 08 0001 01 00 6162636465666768 0a")})
}

func TestSeqnoReqOfHopsAndIds(t *testing.T) { // P6.1, P6.7
	want := api.Tlv{Type: 10, Seqno: 1, Hops: 1, Id: idA, Pair: pair("10.0.0.0/8")}
	wantSaid(t, local, []string{piece(10, "01 08 0001 01 00 6162636465666768 0a")}, want)
	wantSaid(t, local, []string{piece(10, "01 08 0001 00 00 6162636465666768 0a")})
	wantSaid(t, local, []string{piece(10, "01 08 0001 00 ff 6162636465666768 0a")})
	wantSaid(t, local, []string{piece(10, "01 08 0001 01 00 0000000000000000 0a")}) // Check would not take it
	want.Id = api.RouterId{7: 1}
	wantSaid(t, local, []string{piece(10, "01 08 0001 01 00 0000000000000001 0a")}, want)
}

// A wildcard request has no prefix, whatever its plen says: that it must be 0 is said of updates alone.
func TestRouteReqOfAeAny(t *testing.T) { // P6.1
	for _, plen := range []string{"00", "01", "20", "80", "ff"} {
		wantSaid(t, local, []string{piece(9, "00", plen)}, api.Tlv{Type: 9, All: true})
		wantSaid(t, local, []string{piece(9, "00", plen, "8002 0801")})
		wantSaid(t, local, []string{piece(9, "00", plen, "8000")})
	}
}

// ones is the prefix of a family whose bits, so many, are all 1, bit by bit.
func ones(ae, plen int) api.Prefix {
	p := api.Prefix{Len: plen}
	if ae == 1 {
		p = api.Prefix{A: api.Addr{10: 0xff, 11: 0xff}, Len: 96 + plen}
	}
	for i := p.Len - plen; i < p.Len; i++ {
		p.A[i/8] |= 0x80 >> (i % 8)
	}
	return p
}

func TestEveryPlen(t *testing.T) { // P6.1
	for ae, most := range map[int]int{1: 32, 2: 128} {
		family := map[int]string{1: "0.0.0.0/0", 2: "::/0"}[ae]
		hop := map[int]api.Addr{1: addr4, 2: addr6}[ae]
		for plen := range 256 {
			head := one(byte(plen))
			kind := one(byte(ae))
			full := strings.Repeat("ff", (plen+7)/8) // bits behind the length too
			update := piece(8, kind, "00", head, "00 0001 0002 0003", full)
			req := piece(9, kind, head, full)
			seqno := piece(10, kind, head, "0001 01 00 6162636465666768", full)
			source := piece(9, kind, "00", "80", one(byte(1+len(full)/2)), head, full)
			if plen > most {
				wantSaid(t, local, append(ahead[:3:3], update, req, seqno, source))
				continue
			}
			p := api.Pair{Dst: ones(ae, plen), Src: pair(family).Src}
			wantSaid(t, local, append(ahead[:3:3], update, req, seqno),
				api.Tlv{Type: 8, Interval: 1, Seqno: 2, Metric: 3, Pair: p, Id: idA, Addr: hop},
				api.Tlv{Type: 9, Pair: p},
				api.Tlv{Type: 10, Seqno: 1, Hops: 1, Id: idA, Pair: p})
			if plen > 0 {
				for _, b := range []string{update, req, seqno} { // one byte fewer
					short := bin(b)
					wantSaid(t, local, append(ahead[:3:3], piece(short[0], digits(short[2:len(short)-1]))))
				}
				wantSaid(t, local, []string{source}, api.Tlv{Type: 9, Pair: api.Pair{Dst: pair(family).Dst, Src: ones(ae, plen)}})
			} else {
				wantSaid(t, local, []string{source})
			}
		}
	}
}

func TestBitsBehindThePrefixArePassedOver(t *testing.T) { // P6.1
	wantSaid(t, local, []string{piece(9, "01 0c 0aff")}, api.Tlv{Type: 9, Pair: pair("10.240.0.0/12")})
	wantSaid(t, local, []string{piece(9, "01 0c 0a0f")}, api.Tlv{Type: 9, Pair: pair("10.0.0.0/12")})
	wantSaid(t, local, []string{piece(9, "02 0c 2aff 8003 0a 5fff")}, api.Tlv{Type: 9, Pair: pair("2af0::/12 from 5fc0::/10")})
	// Of the default prefix, too: the bits are in it no more.
	wantSaid(t, local, []string{piece(8, "01 80 0c 00 0001 0002 ffff 0aff"), piece(8, "01 00 10 02 0001 0002 ffff")},
		retraction("10.240.0.0/12"), retraction("10.240.0.0/16"))
	// And of an omitted byte, of which the length takes a part.
	wantSaid(t, local, []string{piece(8, "01 80 10 00 0001 0002 ffff 0aff"), piece(8, "01 00 0a 02 0001 0002 ffff")},
		retraction("10.255.0.0/16"), retraction("10.192.0.0/10"))
}

// retraction is an update with Infinity, as this file's pieces tell it.
func retraction(s string) api.Tlv {
	return api.Tlv{Type: 8, Interval: 1, Seqno: 2, Metric: 65535, Pair: pair(s)}
}

// way is an update below Infinity, as this file's pieces tell it.
func way(s string, id api.RouterId, hop api.Addr) api.Tlv {
	return api.Tlv{Type: 8, Interval: 1, Seqno: 2, Metric: 3, Pair: pair(s), Id: id, Addr: hop}
}

// Updates without a router or a next hop of their own.
const (
	update4 = "08 0b 01 00 08 00 0001 0002 0003 0a"
	update6 = "08 0c 02 00 10 00 0001 0002 0003 2001"
	gone4   = "08 0b 01 00 08 00 0001 0002 ffff 0a"
	gone6   = "08 0c 02 00 10 00 0001 0002 ffff 2001"
)

func TestUpdateNeedsARouter(t *testing.T) { // P6.2
	wantSaid(t, local, []string{hop4, update4, update6, gone4, gone6}, retraction("10.0.0.0/8"), retraction("2001::/16"))
	wantSaid(t, local, []string{hop4, update4, routerA, update4, update6}, way("10.0.0.0/8", idA, addr4), way("2001::/16", idA, local))
	// The last one holds.
	other := piece(6, "ffff 3132333435363738")
	idB := api.RouterId([]byte("12345678"))
	wantSaid(t, local, []string{routerA, update6, other, update6, update6, routerA, update6},
		way("2001::/16", idA, local), way("2001::/16", idB, local), way("2001::/16", idB, local), way("2001::/16", idA, local))
}

func TestRouterIdOfZerosOrOnesAlone(t *testing.T) { // P6.1
	zeros, all := piece(6, "0000 0000000000000000"), piece(6, "0000 ffffffffffffffff")
	for _, none := range []string{zeros, all, piece(6, "6162 0000000000000000"), piece(6, "6162 ffffffffffffffff")} {
		wantSaid(t, local, []string{none, update6, gone6}, retraction("2001::/16"))
		wantSaid(t, local, []string{none, routerA, update6}, way("2001::/16", idA, local))
		wantSaid(t, local, []string{routerA, none, update6}, way("2001::/16", idA, local)) // it is not the router: the other one still is
	}
	for _, id := range []string{"0000000000000001", "0100000000000000", "fffffffffffffffe", "7fffffffffffffff", "00000000000000ff", "ffffffff00000000"} {
		wantSaid(t, local, []string{routerA, piece(6, "0000", id), update6}, way("2001::/16", api.RouterId([]byte(bin(id))), local))
	}
}

func TestRouterIdThatIsTooShort(t *testing.T) { // P6.1
	for n := range 10 {
		short := piece(6, digits(bin("0000 3132333435363738")[:n]))
		wantSaid(t, local, []string{short, update6})
		wantSaid(t, local, []string{routerA, short, update6}, way("2001::/16", idA, local))
	}
}

func TestUpdateNeedsANextHop(t *testing.T) { // P6.2
	// src is the next hop of its family, and none of the other one.
	wantSaid(t, local, []string{routerA, update4, update6}, way("2001::/16", idA, local))
	wantSaid(t, four, []string{routerA, update4, update6}, way("10.0.0.0/8", idA, four))
	wantSaid(t, api.Addr{}, []string{routerA, update4, update6}, way("2001::/16", idA, api.Addr{}))
	wantSaid(t, local, []string{routerA, gone4, gone6}, retraction("10.0.0.0/8"), retraction("2001::/16"))
	wantSaid(t, four, []string{routerA, gone4, gone6}, retraction("10.0.0.0/8"), retraction("2001::/16"))
	// Each family has its own, and the last one holds.
	wantSaid(t, local, []string{routerA, hop4, update4, update6}, way("10.0.0.0/8", idA, addr4), way("2001::/16", idA, local))
	wantSaid(t, local, []string{routerA, hop6, update4, update6}, way("2001::/16", idA, addr6))
	wantSaid(t, four, []string{routerA, hop6, update4, update6}, way("10.0.0.0/8", idA, four), way("2001::/16", idA, addr6))
	wantSaid(t, four, []string{routerA, hop4, hop6, update4, update6}, way("10.0.0.0/8", idA, addr4), way("2001::/16", idA, addr6))
	wantSaid(t, four, []string{routerA, hop4, piece(7, "01 ff 01020304"), update4}, way("10.0.0.0/8", idA, address("1.2.3.4")))
	wantSaid(t, four, []string{routerA, hop6, piece(7, "03 ff 0102030405060708"), update6}, way("2001::/16", idA, address("fe80::102:304:506:708")))
}

// An address of AeV6 may be an IPv4 address: what matters is its family.
func TestMappedAddressesOfAeV6(t *testing.T) { // P6.1, P6.2
	mapped := piece(7, "02 00 00000000 00000000 0000ffff 0a000009")
	wantSaid(t, local, []string{routerA, mapped, update4, update6}, way("10.0.0.0/8", idA, addr4), way("2001::/16", idA, local))
	wantSaid(t, local, []string{piece(5, "02 00 0001 0002 00000000 00000000 0000ffff 0a000009")}, api.Tlv{Type: 5, Rxcost: 1, Interval: 2, Addr: addr4})
	update := piece(8, "02 00 68 00 0001 0002 0003 00000000 00000000 0000ffff 0a")
	wantSaid(t, local, []string{routerA, update})
	wantSaid(t, local, []string{routerA, hop4, update}, way("10.0.0.0/8", idA, addr4))
	wantSaid(t, four, []string{routerA, update}, way("10.0.0.0/8", idA, four))
	for _, c := range []struct{ plen, rest, want string }{
		{"60", "", "0.0.0.0/0"},
		{"7f", "0a0000ff", "10.0.0.254/31"},
		{"80", "0a0000ff", "10.0.0.255/32"},
	} {
		wantSaid(t, local, []string{piece(9, "02", c.plen, "00000000 00000000 0000ffff", c.rest)}, api.Tlv{Type: 9, Pair: pair(c.want)})
	}
	wantSaid(t, local, []string{piece(9, "02 5f 00000000 00000000 0000ffff")}, api.Tlv{Type: 9, Pair: pair("::fffe:0:0/95")})
	wantSaid(t, local, []string{piece(9, "02 5e 00000000 00000000 0000ffff")}, api.Tlv{Type: 9, Pair: pair("::fffc:0:0/94")})
}

func TestNextHopThatIsNotWellFormed(t *testing.T) { // P6.1
	for _, bad := range []string{"", "00", "0000", "0000 0a000008", "0000 0000000000000000 0000000000000000", "01", "0100", "0100 0a0000", "0200", "0200 20010db8 00000000 00000000 000000", "0300 01020304050607", "0400 0a000008", "ff00 0102030405060708"} {
		wantSaid(t, local, []string{routerA, piece(7, bad), update4, update6}, way("2001::/16", idA, local))
		wantSaid(t, local, []string{routerA, hop4, hop6, piece(7, bad), update4, update6}, way("10.0.0.0/8", idA, addr4), way("2001::/16", idA, addr6))
	}
}

func TestUpdateOfAeAny(t *testing.T) { // P6.1
	want := api.Tlv{Type: 8, Interval: 1, Seqno: 2, Metric: 65535, All: true}
	wantSaid(t, local, []string{piece(8, "00 00 00 00 0001 0002 ffff")}, want)
	wantSaid(t, local, []string{piece(8, "00 ff 00 00 0001 0002 ffff 00")}, want)
	for _, bad := range []string{"00 00 01 00 0001 0002 ffff", "00 00 08 00 0001 0002 ffff 0a", "00 00 00 01 0001 0002 ffff", "00 00 08 01 0001 0002 ffff", "00 00 00 00 0001 0002 fffe", "00 00 00 00 0001 0002 0000", "00 00 ff ff 0001 0002 0000"} {
		wantSaid(t, local, append(ahead[:3:3], piece(8, bad)))
	}
	// It makes neither a router nor a default prefix.
	wantSaid(t, local, []string{piece(8, "00 c0 00 00 0001 0002 ffff"), update6, piece(8, "02 00 08 01 0001 0002 ffff")}, want)
	wantSaid(t, local, []string{routerA, piece(8, "02 80 08 00 0001 0002 ffff 20"), piece(8, "00 c0 00 00 0001 0002 ffff"), update6, piece(8, "02 00 08 01 0001 0002 ffff")},
		retraction("2000::/8"), want, way("2001::/16", idA, local), retraction("2000::/8"))
}

func TestOmittedBytes(t *testing.T) { // P6.1
	const base4 = "08 0e 01 80 20 00 0001 0002 ffff 0a010203"
	const base6 = "08 12 02 80 40 00 0001 0002 ffff 20010db800010002"
	first4, first6 := retraction("10.1.2.3/32"), retraction("2001:db8:1:2::/64")
	for _, c := range []struct{ body, want string }{
		{"01 00 18 02 0001 0002 ffff 07", "10.1.7.0/24"},
		{"01 00 18 03 0001 0002 ffff", "10.1.2.0/24"},
		{"01 00 18 00 0001 0002 ffff 070809", "7.8.9.0/24"},
		{"01 00 20 01 0001 0002 ffff 070809", "10.7.8.9/32"},
		{"01 00 20 04 0001 0002 ffff", "10.1.2.3/32"},
		{"01 00 08 01 0001 0002 ffff", "10.0.0.0/8"},
		{"01 00 00 00 0001 0002 ffff", "0.0.0.0/0"},
		{"02 00 40 08 0001 0002 ffff", "2001:db8:1:2::/64"},
		{"02 00 40 06 0001 0002 ffff 0703", "2001:db8:1:703::/64"},
		{"02 00 80 08 0001 0002 ffff 0000000000000009", "2001:db8:1:2::9/128"},
		{"02 00 80 0f 0001 0002 ffff 09", "2001:db8:1:2::9/128"},
		{"02 00 80 10 0001 0002 ffff", "2001:db8:1:2::/128"}, // zeros stand behind the default prefix
		{"02 00 7f 10 0001 0002 ffff", "2001:db8:1:2::/127"},
		{"02 00 11 03 0001 0002 ffff", "2001::/17"},
	} {
		update := piece(8, c.body)
		wantSaid(t, local, []string{base4, base6, update}, first4, first6, retraction(c.want))
		short := bin(update)
		wantSaid(t, local, []string{base4, base6, piece(8, digits(short[2:len(short)-1]))}, first4, first6)
	}
	// More than the prefix has.
	for _, body := range []string{"01 00 18 04 0001 0002 ffff", "01 00 00 01 0001 0002 ffff", "01 00 08 02 0001 0002 ffff 0a", "01 00 20 05 0001 0002 ffff", "01 00 20 ff 0001 0002 ffff", "02 00 00 01 0001 0002 ffff", "02 00 40 09 0001 0002 ffff", "02 00 80 11 0001 0002 ffff", "02 00 80 ff 0001 0002 ffff 00000000"} {
		wantSaid(t, local, []string{base4, base6, piece(8, body)}, first4, first6)
	}
	// No default prefix, or one of the other AE alone.
	for _, body := range []string{"01 00 08 01 0001 0002 ffff", "01 00 18 01 0001 0002 ffff 0102", "01 80 18 01 0001 0002 ffff 0102"} {
		wantSaid(t, local, []string{piece(8, body), piece(8, body)})
		wantSaid(t, local, []string{base6, piece(8, body)}, first6)
	}
	for _, body := range []string{"02 00 08 01 0001 0002 ffff", "02 00 18 01 0001 0002 ffff 0102", "02 80 18 01 0001 0002 ffff 0102"} {
		wantSaid(t, local, []string{piece(8, body), piece(8, body)})
		wantSaid(t, local, []string{base4, piece(8, body)}, first4)
	}
}

func TestDefaultPrefixIsThatOfTheLastFlag(t *testing.T) { // P6.1
	first, two := piece(8, "01 80 18 00 0001 0002 ffff 0a0102"), piece(8, "01 80 10 01 0001 0002 ffff 07")
	plain := piece(8, "01 7f 18 00 0001 0002 ffff 010203") // all flags but that one, and a router of its own
	ask := piece(8, "01 00 20 03 0001 0002 ffff 09")
	wantSaid(t, local, []string{first, plain, ask}, retraction("10.1.2.0/24"), retraction("1.2.3.0/24"), retraction("10.1.2.9/32"))
	wantSaid(t, local, []string{first, two, ask, ask}, retraction("10.1.2.0/24"), retraction("10.7.0.0/16"), retraction("10.7.0.9/32"), retraction("10.7.0.9/32"))
	wantSaid(t, local, []string{plain, ask}, retraction("1.2.3.0/24"))
	// What takes it from the default prefix makes it anew only with the flag.
	wantSaid(t, local, []string{first, piece(8, "01 00 10 01 0001 0002 ffff 07"), ask}, retraction("10.1.2.0/24"), retraction("10.7.0.0/16"), retraction("10.1.2.9/32"))
	// One that is not well-formed makes none.
	for _, bad := range []string{"01 80 21 00 0001 0002 ffff 0102030405", "01 80 18 00 0001 0002 ffff 0102", "01 80 18 04 0001 0002 ffff", "03 80 18 00 0001 0002 ffff 010203", "01 80 18 00"} {
		wantSaid(t, local, []string{first, piece(8, bad), ask}, retraction("10.1.2.0/24"), retraction("10.1.2.9/32"))
	}
	// An update that says nothing, for want of a router or a next hop, makes one.
	wantSaid(t, local, []string{piece(8, "01 80 18 00 0001 0002 0003 0a0102"), ask}, retraction("10.1.2.9/32"))
	wantSaid(t, local, []string{routerA, piece(8, "01 80 18 00 0001 0002 0003 0a0102"), ask}, retraction("10.1.2.9/32"))
	// By the AE, not by the family.
	mapped := piece(8, "02 80 78 00 0001 0002 ffff 00000000 00000000 0000ffff 0a0102")
	wantSaid(t, local, []string{mapped, ask}, retraction("10.1.2.0/24"))
	wantSaid(t, local, []string{first, mapped, piece(8, "01 00 20 02 0001 0002 ffff 0304"), piece(8, "02 00 80 0f 0001 0002 ffff 09")},
		retraction("10.1.2.0/24"), retraction("10.1.2.0/24"), retraction("10.1.3.4/32"), retraction("10.1.2.9/32"))
}

func TestFlagRouterId(t *testing.T) { // P6.1
	own6 := piece(8, "02 40 80 00 0001 0002 0003 20010db8 00000000 01020304 05060708")
	id6 := api.RouterId{1, 2, 3, 4, 5, 6, 7, 8}
	first6 := way("2001:db8::102:304:506:708/128", id6, local)
	wantSaid(t, local, []string{own6, update6}, first6, way("2001::/16", id6, local))
	wantSaid(t, local, []string{routerA, own6, update6}, first6, way("2001::/16", id6, local))
	wantSaid(t, local, []string{own6, routerA, update6}, first6, way("2001::/16", idA, local))
	own4 := piece(8, "01 40 20 00 0001 0002 0003 0a010203")
	id4 := api.RouterId{4: 10, 1, 2, 3}
	wantSaid(t, four, []string{own4, update4}, way("10.1.2.3/32", id4, four), way("10.0.0.0/8", id4, four))
	wantSaid(t, four, []string{routerA, own4, own6, update4}, way("10.1.2.3/32", id4, four), way("10.0.0.0/8", id6, four))
	// Of a part of an address the rest is zeros; bits behind the length are none of it.
	wantSaid(t, four, []string{piece(8, "01 40 0c 00 0001 0002 0003 0aff")}, way("10.240.0.0/12", api.RouterId{4: 10, 0xf0}, four))
	wantSaid(t, local, []string{piece(8, "02 40 48 00 0001 0002 0003 20010db8 00000000 07")}, way("2001:db8::700:0:0:0/72", api.RouterId{0: 7}, local))
	// An omitted part is a part of the address.
	wantSaid(t, four, []string{piece(8, "01 80 20 00 0001 0002 ffff 0a010203"), piece(8, "01 40 20 03 0001 0002 0003 09")}, retraction("10.1.2.3/32"), way("10.1.2.9/32", api.RouterId{4: 10, 1, 2, 9}, four))
	// By the AE: of one of AeV6 these are its last eight bytes, whatever its family.
	wantSaid(t, four, []string{piece(8, "02 40 80 00 0001 0002 0003 00000000 00000000 0000ffff 0a010203")}, way("10.1.2.3/32", api.RouterId{2: 0xff, 0xff, 10, 1, 2, 3}, four))
	// One with Infinity makes it, too, and so does one that says nothing for want of a next hop.
	wantSaid(t, local, []string{piece(8, "01 40 20 00 0001 0002 ffff 0a010203"), update6}, retraction("10.1.2.3/32"), way("2001::/16", id4, local))
	wantSaid(t, local, []string{routerA, own4, update6}, way("2001::/16", id4, local))
	// Both flags at once.
	wantSaid(t, four, []string{piece(8, "01 c0 20 00 0001 0002 0003 0a010203"), piece(8, "01 00 18 03 0001 0002 0003")}, way("10.1.2.3/32", id4, four), way("10.1.2.0/24", id4, four))
	// One that is not well-formed makes none.
	wantSaid(t, local, []string{routerA, piece(8, "01 40 20 00 0001 0002 0003 0a0102"), piece(8, "01 40 21 00 0001 0002 0003 0a01020304"), update6}, way("2001::/16", idA, local))
}

func TestFlagRouterIdOfZerosOrOnesAlone(t *testing.T) { // P6.1, P6.2
	for _, none := range []string{
		piece(8, "02 40 40 00 0001 0002 0003 20010db800010002"),
		piece(8, "02 40 00 00 0001 0002 0003"),
		piece(8, "01 40 00 00 0001 0002 0003"),
		piece(8, "02 40 80 00 0001 0002 0003 20010db8 00000000 ffffffffffffffff"),
	} {
		wantSaid(t, local, []string{routerA, hop4, none, update4, update6, gone6}, retraction("2001::/16"))
		wantSaid(t, local, []string{routerA, hop4, none, update4, routerA, update6}, way("2001::/16", idA, local))
	}
	wantSaid(t, four, []string{piece(8, "01 40 20 00 0001 0002 0003 ffffffff")}, way("255.255.255.255/32", api.RouterId{4: 255, 255, 255, 255}, four))
}

func TestSubSource(t *testing.T) { // P6.1, P6.3
	for _, c := range []struct{ ae, dst, subs, want string }{
		{"01", "08 0a", "8002 08 01", "10.0.0.0/8 from 1.0.0.0/8"},
		{"01", "08 0a", "8002 01 ff", "10.0.0.0/8 from 128.0.0.0/1"},
		{"01", "08 0a", "8005 20 01020304", "10.0.0.0/8 from 1.2.3.4/32"},
		{"01", "00", "8002 08 01", "0.0.0.0/0 from 1.0.0.0/8"},
		{"02", "10 2001", "8003 10 2002", "2001::/16 from 2002::/16"},
		{"02", "00", "8011 80 20010db8 00000000 00000000 00000001", "::/0 from 2001:db8::1/128"},
		{"02", "00", "00 0101ff 8003 0c 2fff 0500", "::/0 from 2ff0::/12"},
		{"01", "08 0a", "8004 08 01 ffff", "10.0.0.0/8 from 1.0.0.0/8"}, // what stands behind it is passed over
		// Both of IPv4, told as of AeV6.
		{"02", "68 00000000 00000000 0000ffff 0a", "800e 68 00000000 00000000 0000ffff 01", "10.0.0.0/8 from 1.0.0.0/8"},
		{"02", "68 00000000 00000000 0000ffff 0a", "800d 60 00000000 00000000 0000ffff", "10.0.0.0/8"},
	} {
		wantSourced(t, c.ae, c.dst, c.subs, c.want)
	}
	for _, c := range []struct{ ae, dst, subs string }{
		{"01", "08 0a", "8000"},
		{"01", "08 0a", "8001 00"},
		{"01", "08 0a", "8002 00 01"},
		{"01", "08 0a", "8001 08"},
		{"01", "08 0a", "8004 20 010203"},
		{"01", "08 0a", "8006 21 0102030405"},
		{"01", "08 0a", "8011 80 20010db8 00000000 00000000 00000001"},
		{"01", "08 0a", "8002 08 01 8002 08 01"},
		{"01", "08 0a", "8002 08 01 8002 08 02"},
		{"01", "08 0a", "8002 08 01 0500 8000"},
		{"01", "08 0a", "8001 00 8002 08 01"},
		{"02", "10 2001", "8001 00"},
		{"02", "10 2001", "8003 11 2002"},
		{"02", "10 2001", "8012 81 20010db8 00000000 00000000 00000001 00"},
		{"02", "10 2001", "8021 ff" + strings.Repeat("00", 32)},
		// One of IPv4, the other one not.
		{"02", "10 2001", "800e 68 00000000 00000000 0000ffff 01"},
		{"02", "10 2001", "800d 60 00000000 00000000 0000ffff"},
		{"02", "68 00000000 00000000 0000ffff 0a", "8003 10 2002"},
		{"02", "68 00000000 00000000 0000ffff 0a", "8002 01 00"},
	} {
		wantSourced(t, c.ae, c.dst, c.subs, "")
	}
	wantSaid(t, local, []string{piece(8, "00 00 00 00 0001 0002 ffff 8002 08 01")})
	wantSaid(t, local, []string{piece(8, "00 00 00 00 0001 0002 ffff 8000")})
}

// wantSourced fails unless an update, below Infinity and not, and both requests of that prefix with these pieces within tell that pair; nothing, if it is "".
func wantSourced(t *testing.T, ae, dst, subs, want string) {
	t.Helper()
	plen, prefix := dst[:2], dst[2:]
	pieces := append(ahead[:3:3],
		piece(8, ae, "00", plen, "00 0001 0002 0003", prefix, subs),
		piece(8, ae, "00", plen, "00 0001 0002 ffff", prefix, subs),
		piece(9, ae, plen, prefix, subs),
		piece(10, ae, plen, "0004 05 00 6162636465666768", prefix, subs))
	if want == "" {
		wantSaid(t, local, pieces)
		return
	}
	hop := addr6
	if addr.PrefixFamily(pair(want).Dst) == api.V4 {
		hop = addr4
	}
	wantSaid(t, local, pieces, way(want, idA, hop), retraction(want), api.Tlv{Type: 9, Pair: pair(want)}, api.Tlv{Type: 10, Seqno: 4, Hops: 5, Id: idA, Pair: pair(want)})
}

// faulty are pieces within for which a piece says nothing: of each one the first that is known of it, or none.
var faulty = []string{"8100", "ff01 00", "00 0500 9000", "03", "0102 00", "00 81", "0500 8005 20"}

func TestWhatAFaultyPieceMakesHolds(t *testing.T) { // P6.3
	id := api.RouterId([]byte("12345678"))
	for _, subs := range append(faulty[:len(faulty):len(faulty)], "8000", "8002 0801") { // none may be known there
		wantSaid(t, local, []string{piece(6, "0000 3132333435363738", subs), update6}, way("2001::/16", id, local))
		wantSaid(t, local, []string{routerA, piece(6, "0000 3132333435363738", subs), update6}, way("2001::/16", id, local))
		wantSaid(t, local, []string{routerA, piece(7, "01 00 01020304", subs), update4}, way("10.0.0.0/8", idA, address("1.2.3.4")))
		wantSaid(t, local, []string{routerA, hop6, piece(7, "02 00 20020000 00000000 00000000 00000001", subs), update6}, way("2001::/16", idA, address("2002::1")))
		wantSaid(t, local, []string{routerA, hop6, piece(7, "03 00 0000000000000007", subs), update6}, way("2001::/16", idA, address("fe80::7")))
	}
	for _, subs := range append(faulty[:len(faulty):len(faulty)], "8000", "8001 00", "8002 00 01", "8002 01 01 8002 01 01", "8006 81 0102030405") {
		for _, metric := range []string{"0003", "ffff"} {
			both := piece(8, "02 c0 80 00 0001 0002", metric, "20010db8 00000000 3132333435363738", subs)
			wantSaid(t, local, []string{routerA, both, update6, piece(8, "02 00 20 04 0001 0002 ffff")}, way("2001::/16", id, local), retraction("2001:db8::/32"))
			both = piece(8, "01 c0 20 00 0001 0002", metric, "35363738", subs)
			wantSaid(t, local, []string{routerA, both, update6, piece(8, "01 00 10 02 0001 0002 ffff")}, way("2001::/16", api.RouterId{4: 0x35, 0x36, 0x37, 0x38}, local), retraction("53.54.0.0/16"))
		}
	}
	// An id that no router may have is none of these either.
	for _, subs := range append(faulty[:len(faulty):len(faulty)], "") {
		wantSaid(t, local, []string{routerA, piece(6, "0000 0000000000000000", subs), update6}, way("2001::/16", idA, local))
		wantSaid(t, local, []string{routerA, hop6, piece(7, "00 00", subs), update6}, way("2001::/16", idA, addr6))
	}
}

func TestPiecesWithinThatAreFine(t *testing.T) { // P6.3
	for _, subs := range []string{"00", "0102 0000", "0500 7f01ff"} {
		wantSaid(t, local, []string{routerA, piece(7, "01 00 0a000009", subs), update4}, way("10.0.0.0/8", idA, addr4))
		wantSaid(t, local, []string{piece(6, "0000 6162636465666768", subs), update6}, way("2001::/16", idA, local))
	}
}

func TestParseTellsOpensErrors(t *testing.T) { // P6.2
	for _, c := range []struct {
		p    string
		want api.Errno
	}{
		{"", api.ErrShort},
		{"2a", api.ErrShort},
		{"2a0200", api.ErrShort},
		{"2b0200", api.ErrShort},
		{"2b020004 03020007", api.ErrMagic},
		{"2b030004", api.ErrMagic},
		{"2a010004 03020007", api.ErrVersion},
		{"2a030009 03020007", api.ErrVersion},
		{"2a020005 03020007", api.ErrLength},
		{"2a02ffff 03020007", api.ErrLength},
		{"2a020001", api.ErrLength},
	} {
		if l, e := Parse(local, []byte(bin(c.p))); len(l) != 0 || e != c.want {
			t.Errorf("Parse(%s) = %+v, %d, want %d", c.p, l, e, c.want)
		}
	}
	if l, e := Parse(local, nil); len(l) != 0 || e != api.ErrShort {
		t.Errorf("Parse(nil) = %+v, %d", l, e)
	}
}

func TestParseTellsSplitsError(t *testing.T) { // P6.2
	ack := api.Tlv{Type: 3, Nonce: 7}
	for _, c := range []struct {
		body string
		want []api.Tlv
	}{
		{"03", nil},
		{"0302 00", nil},
		{"0302 0007 04", []api.Tlv{ack}},
		{"0302 0007 0403 0000", []api.Tlv{ack}},
		{"00 0302 0007 0302 0007 ffff", []api.Tlv{ack, ack}},
		{"0301 00 0302 0007 01", []api.Tlv{ack}},
	} {
		l, e := Parse(local, whole(c.body))
		if e != api.ErrLength || !slices.EqualFunc(l, c.want, Same) {
			t.Errorf("Parse of %s: %+v, %d", c.body, l, e)
		}
	}
}

func TestParseTellsInOrder(t *testing.T) { // P6.2
	var pieces []string
	var want []api.Tlv
	for _, c := range some {
		pieces = append(pieces, piece(c.kind, c.body), "00")
		want = append(want, c.want)
	}
	wantSaid(t, local, append(ahead[:3:3], pieces...), want...)
	slices.Reverse(pieces)
	slices.Reverse(want)
	wantSaid(t, local, append(ahead[:3:3], pieces...), want...)
}

func TestAPacketBeginsAnew(t *testing.T) { // P6.2
	wantSaid(t, local, []string{routerA, hop4, update4, piece(8, "01 80 18 00 0001 0002 ffff 0a0102")}, way("10.0.0.0/8", idA, addr4), retraction("10.1.2.0/24"))
	wantSaid(t, local, []string{update4, update6, piece(8, "01 00 18 02 0001 0002 ffff 07")})
	wantSaid(t, local, []string{routerA, update4, update6}, way("2001::/16", idA, local))
}

func TestExampleOfTheChapter(t *testing.T) { // P6.1
	wantSaid(t, local, []string{"04 06 00 00 00 05 00 64"}, api.Tlv{Type: 4, Seqno: 5, Interval: 100})
	first, second := "08 0d 01 80 18 00 00 64 00 01 00 20 0a 01 02", "08 0b 01 00 18 02 00 64 00 01 00 20 03"
	wantSaid(t, four, []string{routerA, first, second},
		api.Tlv{Type: 8, Interval: 100, Seqno: 1, Metric: 32, Pair: pair("10.1.2.0/24"), Id: idA, Addr: four},
		api.Tlv{Type: 8, Interval: 100, Seqno: 1, Metric: 32, Pair: pair("10.1.3.0/24"), Id: idA, Addr: four})
}

func TestParseIsNewMemory(t *testing.T) { // rule 3
	p := whole(piece(4, "0000 0001 0002 0304 00000007"), piece(5, "00 00 0001 0002 0308 00000008 00000009"), piece(4, "0000 0001 0002 0304 00000007"))
	p = append(p, "spare room"...)[:len(p)]
	given := string(p[:cap(p)])
	want := []api.Tlv{
		{Type: 4, Seqno: 1, Interval: 2, Stamps: []uint32{7}},
		{Type: 5, Rxcost: 1, Interval: 2, All: true, Stamps: []uint32{8, 9}},
		{Type: 4, Seqno: 1, Interval: 2, Stamps: []uint32{7}},
	}
	first, _ := Parse(local, p)
	second, _ := Parse(local, p)
	for i := range first {
		if !slices.EqualFunc(first[i:], want[i:], Same) {
			t.Fatalf("the answer has become %+v", first)
		}
		l := first[i].Stamps[:cap(first[i].Stamps)]
		for k := range l {
			l[k] = 99
		}
	}
	clear(first[:cap(first)])
	if string(p[:cap(p)]) != given {
		t.Errorf("what was handed in has become %x", p)
	}
	for i := range p[:cap(p)] {
		p[:cap(p)][i] = 0xee
	}
	if !slices.EqualFunc(second, want, Same) {
		t.Errorf("another answer has become %+v", second)
	}
}
