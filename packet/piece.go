package packet

import (
	"culvert/addr"
	"culvert/api"
	"culvert/octet"
)

func (p *parser) ackReq() (api.Tlv, bool) {
	p.U16()
	t := api.Tlv{Type: api.TypeAckReq, Nonce: p.U16(), Interval: p.U16()}
	_, ok := p.within()
	return t, ok
}

func (p *parser) ack() (api.Tlv, bool) {
	t := api.Tlv{Type: api.TypeAck, Nonce: p.U16()}
	_, ok := p.within()
	return t, ok
}

func (p *parser) hello() (api.Tlv, bool) {
	flags := p.U16()
	t := api.Tlv{Type: api.TypeHello, Unicast: flags&api.FlagUnicast != 0, Seqno: p.U16(), Interval: p.U16()}
	l, ok := p.within(api.SubTimestamp)
	t.Stamps = stamps(1, l)
	return t, ok
}

func (p *parser) ihu() (api.Tlv, bool) {
	ae := p.U8()
	p.U8()
	t := api.Tlv{Type: api.TypeIhu, All: ae == api.AeAny, Rxcost: p.U16(), Interval: p.U16(), Addr: p.address(ae)}
	l, ok := p.within(api.SubTimestamp)
	t.Stamps = stamps(2, l)
	return t, ok
}

// stamps answers the first n numbers of the first SubTimestamp that has as many.
func stamps(n int, l []api.Raw) []uint32 {
	for _, sub := range l {
		if len(sub.Body) < 4*n {
			continue
		}
		r := octet.New(sub.Body)
		times := make([]uint32, n)
		for i := range times {
			times[i] = r.U32()
		}
		return times
	}
	return nil
}

// routerId makes the router, whatever the pieces within are; an id that no router may have leaves it as it was.
func (p *parser) routerId() {
	p.U16()
	if id := p.id(); p.well() && !nobody(id) {
		p.router = &id
	}
}

// nextHop makes the next hop of the address's family, whatever the pieces within are.
func (p *parser) nextHop() {
	ae := p.U8()
	p.U8()
	if ae == api.AeAny {
		p.bad()
	}
	if hop := p.address(ae); p.well() {
		p.hops[addr.Family(hop)] = &hop
	}
}

func (p *parser) update() (api.Tlv, bool) {
	ae, flags, plen, omitted := p.U8(), p.U8(), int(p.U8()), int(p.U8())
	t := api.Tlv{Type: api.TypeUpdate, Interval: p.U16(), Seqno: p.U16(), Metric: p.U16()}
	if ae == api.AeAny {
		if plen != 0 || omitted != 0 || t.Metric != api.Infinity {
			p.bad()
		}
		t.All = true
		return t, p.noSource()
	}
	dst := p.prefix(ae, plen, omitted)
	if p.well() { // ahead of the pieces within: what it makes holds, whatever they are
		p.keep(ae, flags, dst.A)
	}
	var ok bool
	if t.Pair, ok = p.pair(ae, dst); !ok || t.Metric == api.Infinity {
		return t, ok
	}
	hop := p.hops[addr.PrefixFamily(dst)]
	if hop == nil || p.router == nil || nobody(*p.router) { // FlagRouterId makes a router of any bytes
		return t, false
	}
	t.Id, t.Addr = *p.router, *hop
	return t, true
}

// keep makes of an update's address what its flags say.
func (p *parser) keep(ae, flags uint8, a api.Addr) {
	if flags&api.FlagPrefix != 0 {
		p.prefixes[ae] = &a
	}
	if flags&api.FlagRouterId != 0 {
		var id api.RouterId
		if ae == api.AeV4 {
			copy(id[4:], a[12:]) // the mapped part is none of its four bytes
		} else {
			copy(id[:], a[8:])
		}
		p.router = &id
	}
}

func (p *parser) routeReq() (api.Tlv, bool) {
	ae, plen := p.U8(), int(p.U8())
	t := api.Tlv{Type: api.TypeRouteReq, All: ae == api.AeAny}
	if t.All {
		return t, p.noSource()
	}
	var ok bool
	t.Pair, ok = p.pair(ae, p.prefix(ae, plen, 0))
	return t, ok
}

func (p *parser) seqnoReq() (api.Tlv, bool) {
	ae, plen := p.U8(), int(p.U8())
	t := api.Tlv{Type: api.TypeSeqnoReq, Seqno: p.U16(), Hops: p.U8()}
	p.U8()
	t.Id = p.id()
	if t.Hops == 0 || t.Id == (api.RouterId{}) { // Check takes neither
		p.bad()
	}
	var ok bool
	t.Pair, ok = p.pair(ae, p.prefix(ae, plen, 0))
	return t, ok
}

// id reads the name of a router.
func (p *parser) id() api.RouterId {
	var id api.RouterId
	copy(id[:], p.Bytes(len(id)))
	return id
}

// frame answers an address in which what is not told of that AE stands, and the place from which on the rest is told; false, if there is no such AE.
func frame(ae uint8) (api.Addr, int, bool) {
	switch ae {
	case api.AeAny:
		return api.Addr{}, 16, true
	case api.AeV4:
		return addr.Any(api.V4).A, 12, true
	case api.AeV6:
		return api.Addr{}, 0, true
	case api.AeLinkLocal:
		return api.Addr{0: 0xfe, 1: 0x80}, 8, true
	}
	return api.Addr{}, 0, false
}

// address reads an address.
func (p *parser) address(ae uint8) api.Addr {
	a, at, ok := frame(ae)
	if !ok {
		p.bad()
	}
	copy(a[at:], p.Bytes(len(a)-at))
	return a
}

// prefix reads a prefix of AeV4 or AeV6 without its first omitted bytes, which are those of the default prefix.
func (p *parser) prefix(ae uint8, plen, omitted int) api.Prefix {
	if ae != api.AeV4 && ae != api.AeV6 {
		p.bad()
		return api.Prefix{}
	}
	a, at, _ := frame(ae)
	n := (plen + 7) / 8
	front := p.prefixes[ae]
	if plen > 8*(len(a)-at) || omitted > n || omitted > 0 && front == nil {
		p.bad()
		return api.Prefix{}
	}
	if omitted > 0 {
		copy(a[at:at+omitted], front[at:])
	}
	copy(a[at+omitted:], p.Bytes(n-omitted))
	if odd := plen % 8; odd > 0 {
		a[at+n-1] &^= 0xff >> odd
	}
	return api.Prefix{A: a, Len: 8*at + plen}
}

// pair answers the pair of a prefix of that AE and what the pieces behind it tell of Src; false, if the piece says nothing.
func (p *parser) pair(ae uint8, dst api.Prefix) (api.Pair, bool) {
	l, ok := p.within(api.SubSource)
	if !ok || len(l) > 1 {
		return api.Pair{}, false
	}
	pair := api.Pair{Dst: dst, Src: addr.Any(addr.PrefixFamily(dst))}
	if len(l) == 1 {
		p.Reader = octet.New(l[0].Body) // the piece itself was read to its end
		pair.Src = p.source(ae)
	}
	return pair, p.well() && addr.CheckPair(pair) == api.OK
}

// source reads what a SubSource tells.
func (p *parser) source(ae uint8) api.Prefix {
	plen := int(p.U8())
	if plen == 0 {
		p.bad()
	}
	return p.prefix(ae, plen, 0)
}

// noSource tells whether the piece says something: of one of AeAny there may be no SubSource.
func (p *parser) noSource() bool {
	l, ok := p.within(api.SubSource)
	return ok && len(l) == 0
}
