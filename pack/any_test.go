package pack

import (
	"bytes"
	"math/rand"
	"slices"
	"testing"

	"culvert/api"
	"culvert/packet"
)

// The pieces, what stands in front and the packets once more, beside Pack: by places and bits, of what is right, and with nothing kept but the bytes.

func two(n uint16) []byte { return []byte{byte(n / 256), byte(n % 256)} }

func isV4(a api.Addr) bool {
	return bytes.Equal(a[:12], []byte{0, 0, 0, 0, 0, 0, 0, 0, 0, 0, 255, 255})
}

// pieceByHand is a piece with that body.
func pieceByHand(kind byte, body ...[]byte) []byte {
	b := slices.Concat(body...)
	return append([]byte{kind, byte(len(b))}, b...)
}

func addressByHand(a api.Addr) (ae byte, b []byte) {
	if isV4(a) {
		return 1, a[12:]
	}
	if a[0] == 254 && a[1] == 128 && bytes.Equal(a[2:8], make([]byte, 6)) {
		return 3, a[8:]
	}
	return 2, a[:]
}

// prefixByHand is the kind of a prefix, its plen, and its bytes, one for each bit that begins one.
func prefixByHand(p api.Prefix) (ae, plen byte, b []byte) {
	ae, from := 2, 0
	if p.Len >= 96 && isV4(p.A) {
		ae, from = 1, 96
	}
	for i := from; i < p.Len; i += 8 {
		b = append(b, p.A[i/8])
	}
	return ae, byte(p.Len - from), b
}

func pairByHand(p api.Pair) (ae, plen byte, dst, sub []byte) {
	ae, plen, dst = prefixByHand(p.Dst)
	if _, n, src := prefixByHand(p.Src); n > 0 {
		sub = pieceByHand(128, []byte{n}, src)
	}
	return ae, plen, dst, sub
}

func stampsByHand(l []uint32) []byte {
	var b []byte
	for _, s := range l {
		b = slices.Concat(b, two(uint16(s/65536)), two(uint16(s%65536)))
	}
	if b == nil {
		return nil
	}
	return pieceByHand(3, b)
}

// tlvByHand is the piece of a Tlv that may be.
func tlvByHand(t api.Tlv) []byte {
	ae, plen, dst, sub := pairByHand(t.Pair)
	if t.All {
		ae = 0
	}
	switch t.Type {
	case 2:
		return pieceByHand(2, two(0), two(t.Nonce), two(t.Interval))
	case 3:
		return pieceByHand(3, two(t.Nonce))
	case 4:
		flags := map[bool][]byte{false: {0, 0}, true: {128, 0}}[t.Unicast]
		return pieceByHand(4, flags, two(t.Seqno), two(t.Interval), stampsByHand(t.Stamps))
	case 5:
		ae, a := addressByHand(t.Addr)
		if t.All {
			ae, a = 0, nil
		}
		return pieceByHand(5, []byte{ae, 0}, two(t.Rxcost), two(t.Interval), a, stampsByHand(t.Stamps))
	case 8:
		return pieceByHand(8, []byte{ae, 0, plen, 0}, two(t.Interval), two(t.Seqno), two(t.Metric), dst, sub)
	case 9:
		return pieceByHand(9, []byte{ae, plen}, dst, sub)
	}
	return pieceByHand(10, []byte{ae, plen}, two(t.Seqno), []byte{t.Hops, 0}, t.Id[:], dst, sub)
}

// holds answers the router and the next hop, of that family, that hold behind these pieces of a packet from src; nil, if there is none.
func holds(src api.Addr, v4 bool, pieces []byte) (router, hop []byte) {
	if isV4(src) == v4 {
		hop = src[:]
	}
	for ; len(pieces) > 0; pieces = pieces[2+int(pieces[1]):] {
		body := pieces[2 : 2+int(pieces[1])]
		switch {
		case pieces[0] == 6:
			router = body[2:]
		case pieces[0] == 7 && (body[0] == 1) == v4:
			hop = slices.Concat(map[byte][]byte{1: {10: 255, 11: 255}, 3: {0: 254, 1: 128, 7: 0}}[body[0]], body[2:])
		}
	}
	return router, hop
}

// behind is what a Tlv needs behind these pieces: its piece, and what stands in front.
func behind(src api.Addr, pieces []byte, t api.Tlv) []byte {
	var b []byte
	if t.Type == 8 && t.Metric < 65535 {
		router, hop := holds(src, isV4(t.Addr), pieces)
		if !bytes.Equal(router, t.Id[:]) {
			b = append(b, pieceByHand(6, two(0), t.Id[:])...)
		}
		if !bytes.Equal(hop, t.Addr[:]) {
			ae, a := addressByHand(t.Addr)
			b = append(b, pieceByHand(7, []byte{ae, 0}, a)...)
		}
	}
	return append(b, tlvByHand(t)...)
}

// packByHand is what Pack ought to answer of Tlvs that may be; none, if one has no room.
func packByHand(src api.Addr, mtu int, l []api.Tlv) [][]byte {
	var bodies [][]byte
	for _, t := range l {
		if 4+len(behind(src, nil, t)) > mtu {
			return nil
		}
		last := len(bodies) - 1
		if last < 0 || 4+len(bodies[last])+len(behind(src, bodies[last], t)) > mtu {
			bodies = append(bodies, nil)
			last++
		}
		bodies[last] = append(bodies[last], behind(src, bodies[last], t)...)
	}
	for i, b := range bodies {
		bodies[i] = append([]byte{42, 2, byte(len(b) / 256), byte(len(b) % 256)}, b...)
	}
	return bodies
}

// few makes bytes, many of which are such as matter.
func few(r *rand.Rand, n int) []byte {
	b := make([]byte, n)
	fill := r.Intn(4)
	for i := range b {
		switch fill {
		case 0:
			b[i] = byte(r.Intn(256))
		case 1:
			b[i] = 255
		case 2:
			b[i] = byte(r.Intn(3))
		}
	}
	return b
}

func number(r *rand.Rand) uint16 {
	b := few(r, 2)
	return uint16(b[0])*256 + uint16(b[1])
}

// someAddr makes one of a few addresses of a family, so that many are alike.
func someAddr(r *rand.Rand, v4 bool) api.Addr {
	if v4 {
		return api.Addr{10: 255, 11: 255, 12: 10, 15: byte(r.Intn(2))}
	}
	return []api.Addr{local, near, hop6, {}, {0: 254, 1: 128, 7: 1}, {10: 255, 11: 254}}[r.Intn(6)]
}

// somePrefix makes one of a family.
func somePrefix(r *rand.Rand, v4 bool) api.Prefix {
	p := api.Prefix{A: api.Addr(few(r, 16)), Len: r.Intn(129)}
	if r.Intn(4) == 0 {
		p.Len = []int{0, 1, 95, 96, 97, 127, 128}[r.Intn(7)]
	}
	if v4 {
		copy(p.A[:], []byte{0, 0, 0, 0, 0, 0, 0, 0, 0, 0, 255, 255})
		p.Len = 96 + r.Intn(33)
	}
	for i := p.Len; i < 128; i++ {
		p.A[i/8] &^= 128 >> (i % 8)
	}
	if !v4 && p.Len >= 96 && isV4(p.A) {
		p.A[0] = 1
	}
	return p
}

func somePair(r *rand.Rand, v4 bool) api.Pair {
	p := api.Pair{Dst: somePrefix(r, v4), Src: somePrefix(r, v4)}
	if r.Intn(2) == 0 {
		p.Src = api.Prefix{}
		if v4 {
			p.Src = api.Prefix{A: api.Addr{10: 255, 11: 255}, Len: 96}
		}
	}
	return p
}

// someTlv makes one that may be.
func someTlv(r *rand.Rand) api.Tlv {
	t := api.Tlv{Type: []uint8{2, 3, 4, 5, 8, 8, 8, 8, 9, 10}[r.Intn(10)]}
	v4 := r.Intn(2) == 0
	switch t.Type {
	case 2:
		t.Nonce, t.Interval = number(r), number(r)
	case 3:
		t.Nonce = number(r)
	case 4:
		t.Seqno, t.Interval, t.Unicast = number(r), number(r), v4
		for range r.Intn(2) {
			t.Stamps = []uint32{r.Uint32()}
		}
	case 5:
		t.Rxcost, t.Interval, t.All = number(r), number(r), r.Intn(3) == 0
		if !t.All {
			t.Addr = someAddr(r, v4)
		}
		for range r.Intn(2) {
			t.Stamps = []uint32{r.Uint32(), uint32(r.Intn(3))}
		}
	case 8:
		t.Interval, t.Seqno, t.Metric = number(r), number(r), number(r)
		t.All = t.Metric == 65535 && r.Intn(3) == 0
		if !t.All {
			t.Pair = somePair(r, v4)
		}
		if t.Metric < 65535 {
			t.Id, t.Addr = []api.RouterId{idA, idB, {0: 255, 1: 1}}[r.Intn(3)], someAddr(r, v4)
		}
	case 9:
		t.All = r.Intn(3) == 0
		if !t.All {
			t.Pair = somePair(r, v4)
		}
	case 10:
		t.Seqno, t.Hops, t.Id, t.Pair = number(r), byte(1+r.Intn(255)), api.RouterId(few(r, 8)), somePair(r, v4)
		t.Id[0] = 9
	}
	return t
}

// loads calls f with many lists of Tlvs that may be.
func loads(seed int64, f func(src api.Addr, mtu int, l []api.Tlv)) {
	r := rand.New(rand.NewSource(seed))
	for range 10000 {
		var l []api.Tlv
		for range r.Intn(30) {
			l = append(l, someTlv(r))
			if last := len(l) - 1; r.Intn(3) == 0 && last > 0 && l[last].Type == l[last-1].Type {
				l[last] = l[last-1] // the same once more
			}
		}
		mtu := 83 + r.Intn(200)
		if r.Intn(4) == 0 {
			mtu = 64 + r.Intn(20)
		}
		f(someAddr(r, r.Intn(2) == 0), mtu, l)
	}
}

// wantAsByHand fails unless Pack of these answers what it ought to, which says them; it answers what Pack did.
func wantAsByHand(t *testing.T, src api.Addr, mtu int, l []api.Tlv) [][]byte {
	t.Helper()
	got, e := Pack(src, mtu, l...)
	want := packByHand(src, mtu, l)
	if want == nil && len(l) > 0 {
		if e != api.ErrMtu || got != nil {
			t.Fatalf("Pack(%v, %d, %+v) = %x, %d, want ErrMtu", src, mtu, l, got, e)
		}
		return nil
	}
	if e != api.OK || !slices.EqualFunc(got, want, bytes.Equal) {
		t.Fatalf("Pack(%v, %d, %+v) = %x, %d, want %x", src, mtu, l, got, e, want)
	}
	wantSaid(t, src, got, l)
	return got
}

func TestAnyTlvsArePacked(t *testing.T) { // P7.1, P7.2, P7.3, P7.6
	var packets, refused int
	loads(71, func(src api.Addr, mtu int, l []api.Tlv) {
		got := wantAsByHand(t, src, mtu, l)
		packets += len(got)
		if got == nil && len(l) > 0 {
			refused++
		}
		for _, p := range got {
			if len(p) > mtu {
				t.Fatalf("%d bytes of at most %d", len(p), mtu)
			}
		}
	})
	if packets < 20000 || refused < 300 {
		t.Errorf("%d packets, %d lists refused: too few to tell anything", packets, refused)
	}
}

func TestAnySizeIsThePiecesLength(t *testing.T) { // P7.1
	r := rand.New(rand.NewSource(72))
	for range 20000 {
		if x := someTlv(r); Size(x) != len(tlvByHand(x)) {
			t.Fatalf("Size(%+v) = %d", x, Size(x))
		}
	}
}

func TestNoPacketCouldTakeMore(t *testing.T) { // P7.7
	looked := 0
	loads(77, func(src api.Addr, mtu int, l []api.Tlv) {
		all, e := Pack(src, mtu, l...)
		if e != api.OK {
			return
		}
		from := 0
		for i := range all {
			n := from + 1 // how many Tlvs this packet has: as many as the most of which there is one packet
			for n < len(l) {
				if p, _ := Pack(src, mtu, l[from:n+1]...); len(p) > 1 {
					break
				}
				n++
			}
			wantSaid(t, src, all[i:i+1], l[from:n])
			if n < len(l) {
				looked++
				if 4+len(all[i][4:])+len(behind(src, all[i][4:], l[n])) <= mtu {
					t.Fatalf("packet %x of at most %d bytes could take %+v", all[i], mtu, l[n])
				}
			}
			from = n
		}
		if from != len(l) {
			t.Fatalf("%d of %d Tlvs are in packets", from, len(l))
		}
	})
	if looked < 10000 {
		t.Errorf("%d packets were full: too few to tell anything", looked)
	}
}

func TestAnyBufferIsPack(t *testing.T) { // P7.5
	loads(75, func(src api.Addr, mtu int, l []api.Tlv) {
		b := buffer(t, src, mtu)
		var waits []api.Tlv
		for i := 0; i < len(l); i += 3 {
			some := l[i:min(i+3, len(l))]
			_, want := Pack(src, mtu, some...)
			if want == api.OK {
				waits = append(waits, some...)
			}
			wantAdd(t, b, want, len(waits), some...)
		}
		wantFlush(t, b, src, mtu, waits...)
		if t.Failed() {
			t.FailNow()
		}
	})
}

// spoiltTlv makes a Tlv of any values, most of which may not be.
func spoiltTlv(r *rand.Rand) api.Tlv {
	t := someTlv(r)
	switch r.Intn(8) {
	case 0:
		t.Type = byte(r.Intn(256))
	case 1:
		t.Pair.Dst.Len = r.Intn(300) - 100
	case 2:
		t.Pair.Src.A = api.Addr(few(r, 16))
	case 3:
		t.Addr = api.Addr(few(r, 16))
	case 4:
		t.Stamps = make([]uint32, r.Intn(4))
	case 5:
		t.All = !t.All
	case 6:
		t.Metric = number(r)
	}
	return t
}

// errorByHand is the first error that a Tlv has.
func errorByHand(src api.Addr, mtu int, t api.Tlv) api.Errno {
	if e := packet.Check(t); e != api.OK {
		return e
	}
	if ae, _, _ := prefixByHand(t.Pair.Dst); t.Type == 8 && t.Metric < 65535 && (ae == 1) != isV4(t.Addr) {
		return api.ErrArg
	}
	if 4+len(behind(src, nil, t)) > mtu {
		return api.ErrMtu
	}
	return api.OK
}

func TestAnyTlvIsPackedOrRefused(t *testing.T) { // P7.3, rule 1
	r := rand.New(rand.NewSource(73))
	for range 30000 {
		src, mtu := someAddr(r, r.Intn(2) == 0), 64+r.Intn(40)
		l := []api.Tlv{spoiltTlv(r), someTlv(r), spoiltTlv(r)}
		want := api.OK
		for _, x := range l {
			if e := errorByHand(src, mtu, x); want == api.OK {
				want = e
			}
		}
		got, e := Pack(src, mtu, l...)
		if e != want || e != api.OK && got != nil {
			t.Fatalf("Pack(%v, %d, %+v) = %x, %d, want %d", src, mtu, l, got, e, want)
		}
		if e == api.OK {
			wantAsByHand(t, src, mtu, l)
		}
	}
}

func FuzzAnyTlvs(f *testing.F) {
	f.Add(int64(1), uint16(64), uint8(3))
	f.Add(int64(2), uint16(65535), uint8(40))
	f.Fuzz(func(t *testing.T, seed int64, mtu uint16, n uint8) {
		r := rand.New(rand.NewSource(seed))
		var l []api.Tlv
		for range n {
			l = append(l, someTlv(r))
		}
		src := someAddr(r, n%2 == 0)
		if mtu < 64 {
			wantError(t, src, int(mtu), api.ErrArg, l...)
			return
		}
		wantAsByHand(t, src, int(mtu), l)
	})
}
