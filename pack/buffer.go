package pack

import (
	"slices"

	"culvert/api"
)

// Buffer is TLVs that wait to be sent.
type Buffer struct {
	src  api.Addr
	mtu  int
	wait []api.Tlv
}

// New answers a buffer for packets from src, of at most mtu bytes each (P7.5).
func New(src api.Addr, mtu int) (*Buffer, api.Errno) {
	if _, e := Pack(src, mtu); e != api.OK {
		return nil, e
	}
	return &Buffer{src: src, mtu: mtu}, api.OK
}

// Add makes l wait behind the others; if one of it is refused, none (P7.5).
func (b *Buffer) Add(l ...api.Tlv) api.Errno {
	if b == nil {
		return api.ErrNone
	}
	if _, e := Pack(b.src, b.mtu, l...); e != api.OK { // whether a Tlv is refused does not hang on what waits ahead of it
		return e
	}
	for _, t := range l {
		t.Stamps = slices.Clone(t.Stamps)
		b.wait = append(b.wait, t)
	}
	return api.OK
}

// Len answers how many wait (P7.5).
func (b *Buffer) Len() int {
	if b == nil {
		return 0
	}
	return len(b.wait)
}

// Flush answers the packets of all that wait; none wait any more (P7.5).
func (b *Buffer) Flush() [][]byte {
	if b == nil {
		return nil
	}
	packets, _ := Pack(b.src, b.mtu, b.wait...) // Add took none that Pack refuses
	b.wait = nil
	return packets
}
