package packet

import (
	"bytes"
	"math/rand"
	"slices"
	"testing"

	"culvert/addr"
	"culvert/api"
)

// byHand tells what a packet's body says by places and bits alone, beside Parse. What may not be found is a nil.
type byHand struct {
	router   []byte
	hops     map[bool][]byte // of IPv4, or not: 16 bytes each
	prefixes map[byte][]byte // by AE: 4 or 16 bytes
	said     []api.Tlv
}

func num(b []byte) uint16 { return uint16(b[0])*256 + uint16(b[1]) }

func isMapped(b []byte) bool {
	return bytes.HasPrefix(b, []byte{0, 0, 0, 0, 0, 0, 0, 0, 0, 0, 255, 255})
}

// wide is an address of four, eight or sixteen bytes in sixteen.
func wide(b []byte) []byte {
	switch len(b) {
	case 4:
		return append([]byte{0, 0, 0, 0, 0, 0, 0, 0, 0, 0, 255, 255}, b...)
	case 8:
		return append([]byte{254, 128, 0, 0, 0, 0, 0, 0}, b...)
	}
	return slices.Clone(b)
}

// body tells all pieces, and whether they end where the body does.
func (h *byHand) body(b []byte) bool {
	for len(b) > 0 {
		if b[0] == 0 {
			b = b[1:]
			continue
		}
		if len(b) < 2 || len(b) < 2+int(b[1]) {
			return false
		}
		h.piece(b[0], b[2:2+int(b[1])])
		b = b[2+int(b[1]):]
	}
	return true
}

// subs answers the bodies of the pieces within of that type; false, if they are faulty.
func subs(kind byte, b []byte) (l [][]byte, ok bool) {
	for len(b) > 0 {
		if b[0] == 0 {
			b = b[1:]
			continue
		}
		if len(b) < 2 || len(b) < 2+int(b[1]) || b[0] > 127 && b[0] != kind {
			return nil, false
		}
		if b[0] == kind {
			l = append(l, b[2:2+int(b[1])])
		}
		b = b[2+int(b[1]):]
	}
	return l, true
}

func (h *byHand) piece(kind byte, b []byte) {
	least := map[byte]int{2: 6, 3: 2, 4: 6, 5: 6, 6: 10, 7: 2, 8: 10, 9: 2, 10: 14}[kind]
	if least == 0 || len(b) < least {
		return
	}
	switch head, rest := b[:least], b[least:]; kind {
	case 2:
		h.plain(api.Tlv{Type: 2, Nonce: num(head[2:]), Interval: num(head[4:])}, rest)
	case 3:
		h.plain(api.Tlv{Type: 3, Nonce: num(head)}, rest)
	case 4:
		h.timed(api.Tlv{Type: 4, Unicast: head[0] > 127, Seqno: num(head[2:]), Interval: num(head[4:])}, 1, rest)
	case 5:
		h.ihu(head, rest)
	case 6:
		if id := head[2:]; !bytes.Equal(id, bytes.Repeat(id[:1], 8)) || id[0] > 0 && id[0] < 255 {
			h.router = id
		}
	case 7:
		n, ok := map[byte]int{1: 4, 2: 16, 3: 8}[head[0]]
		if ok && len(rest) >= n {
			hop := wide(rest[:n])
			h.hops[isMapped(hop)] = hop
		}
	case 8:
		h.update(head, rest)
	case 9:
		if head[0] == 0 {
			h.every(api.Tlv{Type: 9, All: true}, rest)
		} else if p, rest, ok := prefixByHand(head[0], head[1], nil, rest); ok {
			h.paired(api.Tlv{Type: 9}, head[0], p, head[1], rest)
		}
	case 10:
		t := api.Tlv{Type: 10, Seqno: num(head[2:]), Hops: head[4], Id: api.RouterId(head[6:])}
		if p, rest, ok := prefixByHand(head[0], head[1], nil, rest); ok && t.Hops > 0 && bytes.Count(head[6:], []byte{0}) < 8 {
			h.paired(t, head[0], p, head[1], rest)
		}
	}
}

func (h *byHand) plain(t api.Tlv, rest []byte) {
	if _, ok := subs(1, rest); ok {
		h.said = append(h.said, t)
	}
}

// every is of AeAny.
func (h *byHand) every(t api.Tlv, rest []byte) {
	if l, ok := subs(128, rest); ok && len(l) == 0 {
		h.said = append(h.said, t)
	}
}

func (h *byHand) timed(t api.Tlv, n int, rest []byte) {
	l, ok := subs(3, rest)
	if !ok {
		return
	}
	for _, b := range l {
		for i := 0; len(t.Stamps) < n && len(b) >= 4*n; i += 4 {
			t.Stamps = append(t.Stamps, uint32(num(b[i:]))*65536+uint32(num(b[i+2:])))
		}
	}
	h.said = append(h.said, t)
}

func (h *byHand) ihu(head, rest []byte) {
	n, ok := map[byte]int{0: 0, 1: 4, 2: 16, 3: 8}[head[0]]
	if !ok || len(rest) < n {
		return
	}
	t := api.Tlv{Type: 5, Rxcost: num(head[2:]), Interval: num(head[4:]), All: n == 0}
	if n > 0 {
		t.Addr = api.Addr(wide(rest[:n]))
	}
	h.timed(t, 2, rest[n:])
}

// prefixByHand answers the 4 or 16 bytes of a prefix, bit by bit, behind which there are zeros, and what is behind it; front is what was omitted.
func prefixByHand(ae, plen byte, front, rest []byte) (p, behind []byte, ok bool) {
	size := map[byte]int{1: 4, 2: 16}[ae]
	if size == 0 || int(plen) > 8*size {
		return nil, nil, false
	}
	from := slices.Concat(front, rest)
	p = make([]byte, size)
	used := len(front)
	for i := range int(plen) {
		if i/8 >= len(from) {
			return nil, nil, false
		}
		p[i/8] |= from[i/8] & (1 << (7 - i%8))
		used = max(used, i/8+1)
	}
	if used > (int(plen)+7)/8 {
		return nil, nil, false
	}
	return p, from[used:], true
}

func prefixOf(p []byte, plen byte) api.Prefix {
	return api.Prefix{A: api.Addr(wide(p)), Len: 128 - 8*len(p) + int(plen)}
}

func (h *byHand) paired(t api.Tlv, ae byte, p []byte, plen byte, rest []byte) bool {
	l, ok := subs(128, rest)
	if !ok || len(l) > 1 {
		return false
	}
	t.Pair.Dst = prefixOf(p, plen)
	mapped := isMapped(wide(p)) && t.Pair.Dst.Len >= 96
	if mapped {
		t.Pair.Src = api.Prefix{A: api.Addr{10: 255, 11: 255}, Len: 96}
	}
	for _, b := range l {
		if len(b) == 0 || b[0] == 0 {
			return false
		}
		src, _, ok := prefixByHand(ae, b[0], nil, b[1:])
		if !ok {
			return false
		}
		t.Pair.Src = prefixOf(src, b[0])
		if mapped != (isMapped(wide(src)) && t.Pair.Src.Len >= 96) {
			return false
		}
	}
	if t.Type == 8 && t.Metric < 65535 {
		hop := h.hops[mapped]
		if hop == nil || h.router == nil || bytes.Count(h.router, []byte{0}) == 8 || bytes.Count(h.router, []byte{255}) == 8 {
			return false
		}
		t.Id, t.Addr = api.RouterId(h.router), api.Addr(hop)
	}
	h.said = append(h.said, t)
	return true
}

func (h *byHand) update(head, rest []byte) {
	ae, flags, plen, omitted := head[0], head[1], head[2], int(head[3])
	t := api.Tlv{Type: 8, Interval: num(head[4:]), Seqno: num(head[6:]), Metric: num(head[8:])}
	if ae == 0 {
		if plen == 0 && omitted == 0 && t.Metric == 65535 {
			t.All = true
			h.every(t, rest)
		}
		return
	}
	front := h.prefixes[ae]
	if omitted > len(front) {
		return
	}
	p, rest, ok := prefixByHand(ae, plen, front[:omitted], rest)
	if !ok {
		return
	}
	if flags >= 128 {
		h.prefixes[ae] = p
	}
	if flags%128 >= 64 {
		h.router = slices.Concat(make([]byte, 4), p)[len(p)-4:]
	}
	h.paired(t, ae, p, plen, rest)
}

// toldByHand is what Parse ought to tell.
func toldByHand(src api.Addr, p []byte) ([]api.Tlv, api.Errno) {
	switch {
	case len(p) < 4:
		return nil, 3
	case p[0] != 42:
		return nil, 50
	case p[1] != 2:
		return nil, 51
	case len(p)-4 < int(num(p[2:])):
		return nil, 52
	}
	h := &byHand{hops: map[bool][]byte{isMapped(src[:]): src[:]}, prefixes: map[byte][]byte{}}
	if !h.body(p[4 : 4+int(num(p[2:]))]) {
		return h.said, 52
	}
	return h.said, 0
}

// wantAsByHand fails unless Parse tells what it ought to, and Check takes it.
func wantAsByHand(t *testing.T, src api.Addr, p []byte) []api.Tlv {
	t.Helper()
	l, e := Parse(src, p)
	want, why := toldByHand(src, p)
	if e != why || !slices.EqualFunc(l, want, Same) {
		t.Fatalf("Parse of %x: %+v, %d, want %+v, %d", p, l, e, want, why)
	}
	for _, x := range l {
		if e := Check(x); e != api.OK {
			t.Fatalf("of %x: Check(%+v) = %d", p, x, e)
		}
	}
	return l
}

// few makes bytes, many of which are such as matter.
func few(r *rand.Rand, n int) []byte {
	b := make([]byte, n)
	fill := r.Intn(4)
	for i := range b {
		switch fill {
		case 0:
			b[i] = byte(r.Intn(256))
		case 1:
			b[i] = 255
		case 2:
			b[i] = byte(r.Intn(3))
		}
	}
	return b
}

// somePrefix makes the bytes of a prefix, now and then one of IPv4 as of AeV6, or a byte too few.
func somePrefix(r *rand.Rand, ae byte) (plen byte, b []byte) {
	most := 33
	if ae == 2 {
		most = 129
	}
	plen = byte(r.Intn(most + r.Intn(2)))
	b = few(r, (int(plen)+7)/8)
	if ae == 2 && r.Intn(3) == 0 {
		plen = byte(94 + r.Intn(35))
		b = append([]byte{0, 0, 0, 0, 0, 0, 0, 0, 0, 0, 255, 255}, few(r, 4)...)[:(int(plen)+7)/8]
	}
	return plen, b[:len(b)-min(len(b), r.Intn(8)/7)]
}

// someSubs makes pieces within.
func someSubs(r *rand.Rand, ae byte) []byte {
	var b []byte
	for range r.Intn(3) * r.Intn(2) {
		switch r.Intn(8) {
		case 0, 1:
			plen, p := somePrefix(r, ae)
			b = append(append(b, 128, byte(len(p)+1), plen), p...)
		case 2, 3, 4:
			p := few(r, r.Intn(11))
			b = append(append(b, 3, byte(len(p))), p...)
		case 5:
			b = append(b, byte(r.Intn(2)*129), 0, 0)
		case 6:
			b = append(b, 0)
		case 7:
			b = append(b, 1, 1, 9, byte(r.Intn(40)/39))
		}
	}
	return b
}

// someBody makes the body of a piece of that kind, most of which are well-formed.
func someBody(r *rand.Rand, kind byte) []byte {
	ae := byte(1 + r.Intn(2))
	if r.Intn(4) == 0 {
		ae = byte(r.Intn(5))
	}
	plen, p := somePrefix(r, ae)
	var b []byte
	switch kind {
	case 5, 7:
		n := map[byte]int{1: 4, 2: 16, 3: 8}[ae]
		b = slices.Concat([]byte{ae, 0}, few(r, map[byte]int{5: 4}[kind]), wide(few(r, 4))[:16][16-n:])
	case 8:
		omitted := byte(r.Intn(3) * r.Intn(2))
		flags := byte(r.Intn(4)) << 6
		b = slices.Concat([]byte{ae, flags, plen, omitted}, few(r, 6), p[min(int(omitted), len(p)):])
		if ae == 0 && r.Intn(3) > 0 {
			b = slices.Concat([]byte{0, flags, 0, 0}, few(r, 4), []byte{255, 255})
		}
	case 9:
		b = slices.Concat([]byte{ae, plen}, p)
		if ae == 0 {
			b = b[:2]
		}
	case 10:
		b = slices.Concat([]byte{ae, plen}, few(r, 4), few(r, 8), p)
	default:
		b = few(r, map[byte]int{2: 6, 3: 2, 4: 6, 6: 10}[kind])
	}
	b = append(b, someSubs(r, ae)...)
	return b[:len(b)-min(len(b), r.Intn(10)/9)]
}

// packets calls f with many packets that say much.
func packets(seed int64, f func(src api.Addr, p []byte)) {
	r := rand.New(rand.NewSource(seed))
	for range 20000 {
		var b []byte
		for range r.Intn(12) {
			kind := []byte{1, 2, 3, 4, 5, 6, 6, 7, 7, 8, 8, 8, 8, 8, 9, 10, 11}[r.Intn(17)]
			body := someBody(r, kind)
			b = append(append(b, kind, byte(len(body))), body...)
		}
		b = b[:len(b)-min(len(b), r.Intn(20)/19)]
		src := local
		if r.Intn(3) == 0 {
			src = four
		}
		f(src, append([]byte{42, 2, byte(len(b) >> 8), byte(len(b))}, b...))
	}
}

func TestAnyPacketIsParsed(t *testing.T) { // P6.1, P6.2, P6.3, P6.7
	var kinds [11]int
	specific := 0
	packets(61, func(src api.Addr, p []byte) {
		for _, x := range wantAsByHand(t, src, p) {
			kinds[x.Type]++
			if addr.Specific(x.Pair) {
				specific++
			}
		}
	})
	for _, kind := range []int{2, 3, 4, 5, 8, 9, 10} {
		if kinds[kind] < 1000 {
			t.Errorf("of type %d %d were told: too few to tell anything", kind, kinds[kind])
		}
	}
	if specific < 500 {
		t.Errorf("%d pairs were specific: too few to tell anything", specific)
	}
}

func TestAnyBytesAreParsed(t *testing.T) { // P6.7
	r := rand.New(rand.NewSource(67))
	for range 20000 {
		wantAsByHand(t, local, few(r, r.Intn(40)))
		b := few(r, r.Intn(60))
		wantAsByHand(t, four, append([]byte{42, 2, 0, byte(len(b))}, b...))
	}
	packets(68, func(src api.Addr, p []byte) { // one byte of it is another one
		p[r.Intn(len(p))] = byte(r.Intn(256))
		wantAsByHand(t, src, p)
	})
}

func TestTheLongestPacket(t *testing.T) { // P6.7
	body := bytes.Repeat([]byte{3, 2, 0, 7}, 65535/4)
	body = append(body, 0, 0, 0)
	l, e := Parse(local, append([]byte{42, 2, 255, 255}, body...))
	if e != api.OK || len(l) != 65535/4 {
		t.Errorf("%d told, %d", len(l), e)
	}
	if l, e = Parse(local, append([]byte{42, 2, 255, 255}, make([]byte, 65535)...)); e != api.OK || len(l) != 0 {
		t.Errorf("%d told, %d", len(l), e)
	}
}

func TestTrailerSaysNothing(t *testing.T) { // P6.8
	r := rand.New(rand.NewSource(68))
	packets(69, func(src api.Addr, p []byte) {
		want, why := Parse(src, p)
		for _, trailer := range [][]byte{{0}, {3, 2, 0, 7}, {3}, []byte(bin(routerA + update6)), few(r, r.Intn(20)), p} {
			l, e := Parse(src, slices.Concat(p, trailer))
			if e != why || !slices.EqualFunc(l, want, Same) {
				t.Fatalf("Parse of %x with the trailer %x: %+v, %d, want %+v, %d", p, trailer, l, e, want, why)
			}
		}
	})
}

func TestParseHangsOnNothingElse(t *testing.T) { // P6.8
	p := whole(routerA, hop4, update4, update6, piece(8, "01 80 18 00 0001 0002 ffff 0a0102"))
	want, why := Parse(local, p)
	packets(70, func(src api.Addr, other []byte) {
		Parse(src, other)
		l, e := Parse(local, p)
		if e != why || !slices.EqualFunc(l, want, Same) {
			t.Fatalf("behind %x: %+v, %d", other, l, e)
		}
	})
}

// Whatever the bytes are, a call ends, none panics, and what it is given stays as it was (rules 1 and 3).
func FuzzAnyBytes(f *testing.F) {
	f.Add(local[:], whole(routerA, hop4, update4, update6))
	f.Add(four[:], whole(piece(8, "01 80 18 00 0001 0002 ffff 0a0102"), piece(8, "01 00 18 02 0001 0002 ffff 07")))
	f.Add([]byte{}, whole(piece(4, "8000 0001 0002 0304 00000007"), piece(9, "02 10 2001 8003 10 2002")))
	f.Fuzz(func(t *testing.T, from, p []byte) {
		var src api.Addr
		copy(src[:], from)
		given := slices.Clone(p)
		wantAsByHand(t, src, p)
		wantAsByHand(t, src, append([]byte{42, 2, byte(len(p) >> 8), byte(len(p))}, p...))
		if !bytes.Equal(p, given) {
			t.Fatalf("%x has become %x", given, p)
		}
	})
}
