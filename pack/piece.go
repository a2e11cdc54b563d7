package pack

import (
	"culvert/addr"
	"culvert/api"
	"culvert/octet"
	"culvert/packet"
	"culvert/tlv"
)

// Size answers how many bytes the piece of t has; 0, if packet.Check refuses t (P7.1).
func Size(t api.Tlv) int {
	if packet.Check(t) != api.OK {
		return 0
	}
	return length(piece(t))
}

// piece answers the piece of a Tlv that packet.Check takes (P7.1).
func piece(t api.Tlv) api.Raw {
	return api.Raw{Type: t.Type, Body: body(t)}
}

func body(t api.Tlv) []byte {
	switch t.Type {
	case api.TypeAckReq:
		return octet.Put16(nil, 0, t.Nonce, t.Interval)
	case api.TypeAck:
		return octet.Put16(nil, t.Nonce)
	case api.TypeHello:
		return octet.PutBytes(octet.Put16(nil, flags(t), t.Seqno, t.Interval), times(t.Stamps))
	case api.TypeIhu:
		ae, a := whom(t)
		b := octet.Put16(octet.Put8(nil, ae, 0), t.Rxcost, t.Interval)
		return octet.PutBytes(b, a, times(t.Stamps))
	case api.TypeUpdate:
		ae, plen, dst := where(t)
		b := octet.Put16(octet.Put8(nil, ae, 0, plen, 0), t.Interval, t.Seqno, t.Metric)
		return octet.PutBytes(b, dst, source(t.Pair))
	case api.TypeRouteReq:
		ae, plen, dst := where(t)
		return octet.PutBytes(octet.Put8(nil, ae, plen), dst, source(t.Pair))
	}
	ae, plen, dst := where(t) // of a TypeSeqnoReq: there is no other Type left
	b := octet.Put8(octet.Put16(octet.Put8(nil, ae, plen), t.Seqno), t.Hops, 0)
	return octet.PutBytes(b, t.Id[:], dst, source(t.Pair))
}

// routerPiece answers the piece that makes a router that of what follows.
func routerPiece(id api.RouterId) api.Raw {
	return api.Raw{Type: api.TypeRouterId, Body: octet.PutBytes(octet.Put16(nil, 0), id[:])}
}

// hopPiece answers the piece that makes an address the next hop of what follows.
func hopPiece(hop api.Addr) api.Raw {
	ae, a := address(hop)
	return api.Raw{Type: api.TypeNextHop, Body: octet.PutBytes(octet.Put8(nil, ae, 0), a)}
}

// flags answers the flags of a hello.
func flags(t api.Tlv) uint16 {
	if t.Unicast {
		return api.FlagUnicast
	}
	return 0
}

// whom answers for whom an IHU is.
func whom(t api.Tlv) (ae uint8, a []byte) {
	if t.All {
		return api.AeAny, nil
	}
	return address(t.Addr)
}

// address answers an address's kind, and those of its bytes that are told.
func address(a api.Addr) (ae uint8, told []byte) {
	linkLocal := api.Prefix{A: api.Addr{0: 0xfe, 1: 0x80}, Len: 64}
	switch {
	case addr.Contains(linkLocal, a):
		return api.AeLinkLocal, a[8:]
	case addr.Family(a) == api.V4:
		return api.AeV4, a[12:]
	}
	return api.AeV6, a[:]
}

// where answers to where an update or a request is.
func where(t api.Tlv) (ae, plen uint8, dst []byte) {
	if t.All {
		return api.AeAny, 0, nil
	}
	return prefix(t.Pair.Dst)
}

// prefix answers a prefix's kind, how many bits it has, and the bytes that it needs.
func prefix(p api.Prefix) (ae, plen uint8, told []byte) {
	ae, at := uint8(api.AeV6), 0
	if addr.PrefixFamily(p) == api.V4 {
		ae, at = api.AeV4, 12
	}
	return ae, uint8(p.Len - 8*at), p.A[at : (p.Len+7)/8]
}

// source answers the piece within that tells where packets come from, if that matters. A pair that has no part is not Specific.
func source(p api.Pair) []byte {
	if !addr.Specific(p) {
		return nil
	}
	_, plen, src := prefix(p.Src)
	return within(api.SubSource, octet.PutBytes(octet.Put8(nil, plen), src))
}

// times answers the piece within that tells stamps, if there are any.
func times(stamps []uint32) []byte {
	if len(stamps) == 0 {
		return nil
	}
	return within(api.SubTimestamp, octet.Put32(nil, stamps...))
}

// within answers a piece within; none is long enough to be refused.
func within(kind uint8, body []byte) []byte {
	b, _ := tlv.Join(api.Raw{Type: kind, Body: body})
	return b
}
