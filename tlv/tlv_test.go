package tlv

import (
	"bytes"
	"math/rand"
	"slices"
	"testing"

	"culvert/api"
)

// raw is short for a piece.
func raw(kind uint8, body ...byte) api.Raw {
	return api.Raw{Type: kind, Body: body}
}

// alike is whether two pieces are the same; a body that is nil is like an empty one.
func alike(a, b api.Raw) bool {
	return a.Type == b.Type && bytes.Equal(a.Body, b.Body)
}

// many is n bytes, no two neighbours of which are the same.
func many(n int) []byte {
	b := make([]byte, n)
	for i := range b {
		b[i] = byte(i*7 + i>>8)
	}
	return b
}

// roomy is these bytes, with spare room behind them in which something stands.
func roomy(s string) []byte {
	b := append([]byte(s), "spare room"...)
	return b[:len(s)]
}

// spoil changes lists, and their spare room.
func spoil(lists ...[]byte) {
	for _, b := range lists {
		b = b[:cap(b)]
		for i := range b {
			b[i] = 0xee
		}
	}
}

// spoilRaws changes pieces, their bodies, and the spare room of all.
func spoilRaws(l []api.Raw) {
	l = l[:cap(l)]
	for i := range l {
		spoil(l[i].Body)
		l[i] = raw(99, 9, 9)
	}
}

// untouched fails unless b, which roomy made, is as it was.
func untouched(t *testing.T, b []byte, s string) {
	t.Helper()
	if got := string(b[:len(s)+len("spare room")]); got != s+"spare room" {
		t.Errorf("%q has become %q", s+"spare room", got)
	}
}

// wantRaws fails unless these are the pieces.
func wantRaws(t *testing.T, what any, got, want []api.Raw) {
	t.Helper()
	if !slices.EqualFunc(got, want, alike) {
		t.Fatalf("%x: pieces %x, want %x", what, got, want)
	}
}

// splitByHand tells pieces by places alone, beside Split.
func splitByHand(b []byte) ([]api.Raw, api.Errno) {
	var l []api.Raw
	for at := 0; at < len(b); {
		if b[at] == 0 {
			l = append(l, raw(0))
			at++
			continue
		}
		if at+1 >= len(b) || at+2+int(b[at+1]) > len(b) {
			return l, 52
		}
		end := at + 2 + int(b[at+1])
		l = append(l, raw(b[at], b[at+2:end]...))
		at = end
	}
	return l, 0
}

// subByHand goes through the pieces once for each question, beside Sub.
func subByHand(types []uint8, b []byte) ([]api.Raw, bool, api.Errno) {
	l, e := splitByHand(b)
	l = slices.DeleteFunc(l, func(p api.Raw) bool { return p.Type < 2 })
	strange := slices.ContainsFunc(l, func(p api.Raw) bool { return p.Type > 127 && !slices.Contains(types, p.Type) })
	l = slices.DeleteFunc(l, func(p api.Raw) bool { return !slices.Contains(types, p.Type) })
	return l, !strange, e
}

func TestPacketIsHeadAndBody(t *testing.T) { // P5.1
	for _, c := range []struct {
		body []byte
		want string
	}{
		{nil, "\x2a\x02\x00\x00"},
		{[]byte{}, "\x2a\x02\x00\x00"},
		{[]byte{0}, "\x2a\x02\x00\x01\x00"},
		{[]byte("ab"), "\x2a\x02\x00\x02ab"},
		{many(255), "\x2a\x02\x00\xff" + string(many(255))},
		{many(256), "\x2a\x02\x01\x00" + string(many(256))},
		{many(0x1234), "\x2a\x02\x12\x34" + string(many(0x1234))},
		{many(65534), "\x2a\x02\xff\xfe" + string(many(65534))},
		{many(65535), "\x2a\x02\xff\xff" + string(many(65535))},
	} {
		p, e := Packet(c.body)
		if e != api.OK || string(p) != c.want {
			t.Errorf("Packet of %d bytes: %d bytes that begin %x, %v", len(c.body), len(p), p[:min(8, len(p))], e)
		}
	}
}

func TestPacketOfTooLongABody(t *testing.T) { // P5.1
	for _, n := range []int{65536, 65537, 65540, 131072, 1 << 20} {
		if p, e := Packet(make([]byte, n)); len(p) != 0 || e != api.ErrLong {
			t.Errorf("Packet of %d bytes: %d bytes, %v", n, len(p), e)
		}
	}
}

func TestPacketIsNewMemory(t *testing.T) { // P5.1
	for _, s := range []string{"", "body"} {
		body := roomy(s)
		first, _ := Packet(body)
		second, _ := Packet(body)
		spoil(first)
		untouched(t, body, s)
		spoil(body)
		if string(second[4:]) != s {
			t.Errorf("a packet of %q has become %x", s, second)
		}
	}
}

func TestOpenTellsBodyAndTrailer(t *testing.T) { // P5.2
	for _, c := range []struct{ p, body, trailer string }{
		{"\x2a\x02\x00\x00", "", ""},
		{"\x2a\x02\x00\x00t", "", "t"},
		{"\x2a\x02\x00\x00\x2a\x02\x00\x00", "", "\x2a\x02\x00\x00"},
		{"\x2a\x02\x00\x01a", "a", ""},
		{"\x2a\x02\x00\x01at", "a", "t"},
		{"\x2a\x02\x00\x02ab", "ab", ""},
		{"\x2a\x02\x00\x02abmore", "ab", "more"},
		{"\x2a\x02\x01\x00" + string(many(256)), string(many(256)), ""},
		{"\x2a\x02\x01\x00" + string(many(300)), string(many(256)), string(many(300)[256:])},
		{"\x2a\x02\xff\xff" + string(many(65535)), string(many(65535)), ""},
		{"\x2a\x02\xff\xff" + string(many(65538)), string(many(65535)), string(many(65538)[65535:])},
	} {
		body, trailer, e := Open([]byte(c.p))
		if e != api.OK || string(body) != c.body || string(trailer) != c.trailer {
			t.Errorf("Open of %d bytes: %d and %d bytes, %v", len(c.p), len(body), len(trailer), e)
		}
	}
}

func TestOpenTellsTheFirstError(t *testing.T) { // P5.2
	for _, c := range []struct {
		p    string
		want api.Errno
	}{
		{"", api.ErrShort},
		{"\x2a", api.ErrShort}, {"\x2b", api.ErrShort},
		{"\x2a\x02", api.ErrShort}, {"\x00\x00", api.ErrShort},
		{"\x2a\x02\x00", api.ErrShort}, {"\x2b\x02\x00", api.ErrShort}, {"\x2a\x03\x00", api.ErrShort}, {"\x2b\x03\xff", api.ErrShort},
		{"\x2b\x02\x00\x00", api.ErrMagic}, {"\x00\x02\x00\x00", api.ErrMagic}, {"\x02\x2a\x00\x00", api.ErrMagic}, {"\x2b\x02\x00\x01a", api.ErrMagic},
		{"\x2b\x03\x00\x00", api.ErrMagic}, {"\x2b\x03\x00\x01", api.ErrMagic}, {"\x2b\x02\x00\x01", api.ErrMagic},
		{"\x2a\x03\x00\x00", api.ErrVersion}, {"\x2a\x01\x00\x00", api.ErrVersion}, {"\x2a\x03\x00\x01a", api.ErrVersion}, {"\x2a\x03\x00\x01", api.ErrVersion},
		{"\x2a\x02\x00\x01", api.ErrLength}, {"\x2a\x02\x00\x05a", api.ErrLength}, {"\x2a\x02\x00\x03ab", api.ErrLength},
		{"\x2a\x02\x00\x04", api.ErrLength}, {"\x2a\x02\x01\x00", api.ErrLength}, {"\x2a\x02\xff\xffa", api.ErrLength},
		{"\x2a\x02\x01\x01" + string(many(256)), api.ErrLength}, {"\x2a\x02\xff\xff" + string(many(65534)), api.ErrLength},
	} {
		if body, trailer, e := Open([]byte(c.p)); len(body) != 0 || len(trailer) != 0 || e != c.want {
			t.Errorf("Open of %.8x: %.8x, %.8x, %v, want %v", c.p, body, trailer, e, c.want)
		}
	}
}

func TestOpenOfEveryFirstAndSecondByte(t *testing.T) { // P5.2
	for first := range 256 {
		for second := range 256 {
			want := api.OK
			if second != 2 {
				want = api.ErrVersion
			}
			if first != 42 {
				want = api.ErrMagic
			}
			if _, _, e := Open([]byte{byte(first), byte(second), 0, 1, 'a'}); e != want {
				t.Fatalf("Open of %02x %02x: %v, want %v", first, second, e, want)
			}
		}
	}
}

func TestOpenIsNewMemory(t *testing.T) { // P5.2
	const s = "\x2a\x02\x00\x03abctrail"
	p := roomy(s)
	body, trailer, _ := Open(p)
	again, behind, _ := Open(p)
	spoil(body)
	if string(trailer) != "trail" {
		t.Errorf("with the body the trailer has become %q", trailer)
	}
	spoil(trailer)
	untouched(t, p, s)
	spoil(p)
	if string(again) != "abc" || string(behind) != "trail" {
		t.Errorf("another answer has become %q, %q", again, behind)
	}
}

func TestJoinLaysPieces(t *testing.T) { // P5.3
	for _, c := range []struct {
		l    []api.Raw
		want string
	}{
		{nil, ""},
		{[]api.Raw{}, ""},
		{[]api.Raw{raw(0)}, "\x00"},
		{[]api.Raw{{Type: 0, Body: []byte{}}}, "\x00"},
		{[]api.Raw{raw(0), raw(0), raw(0)}, "\x00\x00\x00"},
		{[]api.Raw{raw(0), raw(1, 0, 0)}, "\x00\x01\x02\x00\x00"},
		{[]api.Raw{raw(1)}, "\x01\x00"},
		{[]api.Raw{{Type: 4, Body: []byte{}}}, "\x04\x00"},
		{[]api.Raw{raw(255)}, "\xff\x00"},
		{[]api.Raw{raw(128, 128)}, "\x80\x01\x80"},
		{[]api.Raw{raw(9, 'x'), raw(0), raw(8), raw(9, 'x'), raw(2, 1, 2, 3)}, "\x09\x01x\x00\x08\x00\x09\x01x\x02\x03\x01\x02\x03"},
		{[]api.Raw{raw(1, many(254)...), raw(7)}, "\x01\xfe" + string(many(254)) + "\x07\x00"},
		{[]api.Raw{raw(1, many(255)...), raw(0)}, "\x01\xff" + string(many(255)) + "\x00"},
	} {
		if b, e := Join(c.l...); e != api.OK || string(b) != c.want {
			t.Errorf("Join of %x: %x, %v", c.l, b, e)
		}
	}
}

func TestJoinOfEveryType(t *testing.T) { // P5.3
	for kind := 1; kind < 256; kind++ {
		want := []byte{byte(kind), 1, 7, byte(kind), 0}
		if b, e := Join(raw(uint8(kind), 7), raw(uint8(kind))); e != api.OK || !bytes.Equal(b, want) {
			t.Errorf("Join of type %d: %x, %v", kind, b, e)
		}
	}
}

func TestJoinIsNotBoundByAPacket(t *testing.T) { // P5.3
	l := make([]api.Raw, 300000)
	l[0] = raw(5, 6)
	if b, e := Join(l...); e != api.OK || len(b) != 300002 || !bytes.Equal(b[:4], []byte{5, 1, 6, 0}) {
		t.Errorf("Join: %d bytes, %v", len(b), e)
	}
}

func TestJoinTellsTheFirstError(t *testing.T) { // P5.3
	padded, long, fine := raw(0, 0), raw(1, many(256)...), raw(1, 1)
	for _, c := range []struct {
		l    []api.Raw
		want api.Errno
	}{
		{[]api.Raw{padded}, api.ErrArg},
		{[]api.Raw{raw(0, many(255)...)}, api.ErrArg},
		{[]api.Raw{raw(0, many(256)...)}, api.ErrArg},
		{[]api.Raw{fine, raw(0), padded, fine}, api.ErrArg},
		{[]api.Raw{long}, api.ErrLong},
		{[]api.Raw{raw(255, many(256)...)}, api.ErrLong},
		{[]api.Raw{raw(2, many(257)...)}, api.ErrLong},
		{[]api.Raw{raw(2, many(512)...)}, api.ErrLong},
		{[]api.Raw{raw(2, many(65536)...)}, api.ErrLong},
		{[]api.Raw{fine, raw(0), long, fine}, api.ErrLong},
		{[]api.Raw{long, long}, api.ErrLong},
		{[]api.Raw{padded, long}, api.ErrArg},
		{[]api.Raw{long, padded}, api.ErrArg},
		{[]api.Raw{long, fine, raw(0), padded, fine}, api.ErrArg},
		{[]api.Raw{fine, padded, fine, long}, api.ErrArg},
	} {
		if b, e := Join(c.l...); len(b) != 0 || e != c.want {
			t.Errorf("Join of %.4x: %.4x, %v, want %v", c.l, b, e, c.want)
		}
	}
}

func TestJoinIsNewMemory(t *testing.T) { // P5.3
	body := roomy("body")
	l := []api.Raw{raw(0), {Type: 7, Body: body}, raw(0)}
	first, _ := Join(l[:2]...)
	second, _ := Join(l[:2]...)
	spoil(first)
	untouched(t, body, "body")
	wantRaws(t, "what was handed in", l, []api.Raw{raw(0), raw(7, []byte("body")...), raw(0)})
	spoilRaws(l)
	if string(second) != "\x00\x07\x04body" {
		t.Errorf("another answer has become %x", second)
	}
}

func TestSplitTellsPieces(t *testing.T) { // P5.4
	for _, c := range []struct {
		b    string
		want []api.Raw
	}{
		{"", nil},
		{"\x00", []api.Raw{raw(0)}},
		{"\x00\x00\x00", []api.Raw{raw(0), raw(0), raw(0)}},
		{"\x01\x00", []api.Raw{raw(1)}},
		{"\xff\x00", []api.Raw{raw(255)}},
		{"\x00\x01\x02\x00\x00", []api.Raw{raw(0), raw(1, 0, 0)}},
		{"\x04\x06\x00\x00\x00\x05\x00\x64", []api.Raw{raw(4, 0, 0, 0, 5, 0, 100)}},
		{"\x09\x01x\x08\x00", []api.Raw{raw(9, 'x'), raw(8)}},
		{"\x09\x01x\x08\x00\x00", []api.Raw{raw(9, 'x'), raw(8), raw(0)}},
		{"\x03\x03\x02\x01\x00\x03\x00", []api.Raw{raw(3, 2, 1, 0), raw(3)}},
		{"\x80\xff" + string(many(255)) + "\x00\x02\x01a", []api.Raw{raw(128, many(255)...), raw(0), raw(2, 'a')}},
	} {
		l, e := Split([]byte(c.b))
		if e != api.OK {
			t.Errorf("Split of %x: %v", c.b, e)
		}
		wantRaws(t, c.b, l, c.want)
	}
	if l, e := Split(nil); len(l) != 0 || e != api.OK {
		t.Errorf("Split of nil: %x, %v", l, e)
	}
}

func TestSplitOfBytesThatEndWithinAPiece(t *testing.T) { // P5.4
	for _, c := range []struct {
		b    string
		want []api.Raw
	}{
		{"\x01", nil},
		{"\xff", nil},
		{"\x04\x06\x00", nil},
		{"\x01\x01", nil},
		{"\x01\xff", nil},
		{"\x02\x02a", nil},
		{"\x02\xff" + string(many(254)), nil},
		{"\x00\x00\x05", []api.Raw{raw(0), raw(0)}},
		{"\x00\x01\x01", []api.Raw{raw(0)}},
		{"\x01\x00\x02", []api.Raw{raw(1)}},
		{"\x09\x01x\x08\x02y", []api.Raw{raw(9, 'x')}},
		{"\x09\x01x\x00\x07\x00\x08\x01", []api.Raw{raw(9, 'x'), raw(0), raw(7)}},
		{"\x05\xff" + string(many(255)) + "\x06\xff" + string(many(254)), []api.Raw{raw(5, many(255)...)}},
	} {
		l, e := Split([]byte(c.b))
		if e != api.ErrLength {
			t.Errorf("Split of %x: %v", c.b, e)
		}
		wantRaws(t, c.b, l, c.want)
	}
}

// shorts calls f with every list of at most five bytes among some that matter.
func shorts(f func(b []byte)) {
	some := []byte{0, 1, 2, 3, 128, 255}
	lists := [][]byte{{}}
	for at := 0; at < len(lists); at++ {
		f(lists[at])
		for _, v := range some {
			if len(lists[at]) < 5 {
				lists = append(lists, append(slices.Clone(lists[at]), v))
			}
		}
	}
}

// longs calls f with lists of many bytes, most of them pieces with a few bytes, some cut off.
func longs(seed int64, f func(b []byte)) {
	r := rand.New(rand.NewSource(seed))
	for range 2000 {
		var b []byte
		for range r.Intn(12) {
			body := make([]byte, r.Intn(5))
			r.Read(body)
			kind := byte(r.Intn(8) + r.Intn(2)*124)
			if b = append(b, kind); kind != 0 {
				b = append(append(b, byte(len(body))), body...)
			}
		}
		f(b[:len(b)-min(len(b), r.Intn(2)*r.Intn(6))])
	}
}

func TestSplitOfAnyBytes(t *testing.T) { // P5.4
	look := func(b []byte) {
		l, e := Split(b)
		want, why := splitByHand(b)
		wantRaws(t, b, l, want)
		if e != why {
			t.Fatalf("Split of %x: %v, want %v", b, e, why)
		}
	}
	shorts(look)
	longs(54, look)
}

func TestSplitIsNewMemory(t *testing.T) { // P5.4
	for _, s := range []string{"\x07\x03abc\x00\x08\x00\x09\x02de", "\x07\x03abc\x00\x08\x00\x09\x02de\x0a\x01"} {
		want := []api.Raw{raw(7, []byte("abc")...), raw(0), raw(8), raw(9, []byte("de")...)}
		b := roomy(s)
		first, _ := Split(b)
		second, _ := Split(b)
		spoilRaws(second[len(second):])
		wantRaws(t, "ahead of the spare room", second, want)
		spoil(second[0].Body)
		wantRaws(t, "behind the first", second[1:], want[1:])
		spoilRaws(second)
		untouched(t, b, s)
		spoil(b)
		wantRaws(t, "another answer", first, want)
	}
}

func TestSubTellsWhatIsKnown(t *testing.T) { // P5.5
	for _, c := range []struct {
		types []uint8
		b     string
		want  []api.Raw
		all   bool
		e     api.Errno
	}{
		{nil, "", nil, true, api.OK},
		{[]uint8{3, 128}, "", nil, true, api.OK},
		{nil, "\x03\x00\x7f\x01a", nil, true, api.OK},
		{nil, "\x80\x00", nil, false, api.OK},
		{[]uint8{}, "\x03\x00\x80\x00", nil, false, api.OK},
		{[]uint8{3}, "\x03\x00\x80\x00", []api.Raw{raw(3)}, false, api.OK},
		{[]uint8{3}, "\x80\x00\x03\x01a", []api.Raw{raw(3, 'a')}, false, api.OK},
		{[]uint8{3}, "\x03\x01a\x07\x02bc\x03\x00", []api.Raw{raw(3, 'a'), raw(3)}, true, api.OK},
		{[]uint8{128, 3}, "\x03\x01a\x80\x01b\x03\x01c", []api.Raw{raw(3, 'a'), raw(128, 'b'), raw(3, 'c')}, true, api.OK},
		{[]uint8{3, 3, 128, 3, 128}, "\x80\x00\x03\x01a", []api.Raw{raw(128), raw(3, 'a')}, true, api.OK},
		// Padding is left out, known or not.
		{nil, "\x00\x01\x02ab\x00\x01\x00", nil, true, api.OK},
		{[]uint8{0, 1}, "\x00\x01\x02ab\x00\x01\x00", nil, true, api.OK},
		{[]uint8{0, 1, 3}, "\x00\x03\x01a\x01\x02ab\x00", []api.Raw{raw(3, 'a')}, true, api.OK},
		{[]uint8{1, 2}, "\x01\x00\x02\x00\x00", []api.Raw{raw(2)}, true, api.OK},
		// About Mandatory, and at the end.
		{[]uint8{3}, "\x7f\x00", nil, true, api.OK},
		{[]uint8{127}, "\x7f\x00", []api.Raw{raw(127)}, true, api.OK},
		{[]uint8{127}, "\x80\x00", nil, false, api.OK},
		{[]uint8{128}, "\x80\x00", []api.Raw{raw(128)}, true, api.OK},
		{[]uint8{128}, "\x81\x00", nil, false, api.OK},
		{[]uint8{254}, "\xff\x00", nil, false, api.OK},
		{[]uint8{255}, "\xff\x00", []api.Raw{raw(255)}, true, api.OK},
		{[]uint8{128}, "\x80\x01a\xff\x00\x80\x01b", []api.Raw{raw(128, 'a'), raw(128, 'b')}, false, api.OK},
		{[]uint8{128}, "\xff\x00\x80\x00", []api.Raw{raw(128)}, false, api.OK},
		// An error: of what is ahead of it.
		{nil, "\x03", nil, true, api.ErrLength},
		{[]uint8{3}, "\x03\x01", nil, true, api.ErrLength},
		{[]uint8{3}, "\x03\x00\x03", []api.Raw{raw(3)}, true, api.ErrLength},
		{[]uint8{3}, "\x03\x00\x80", []api.Raw{raw(3)}, true, api.ErrLength},
		{[]uint8{3}, "\x80\x01", nil, true, api.ErrLength},
		{[]uint8{3}, "\x03\x00\x80\x00\x03\x01", []api.Raw{raw(3)}, false, api.ErrLength},
		{[]uint8{3, 128}, "\x03\x00\x00\x80\x00\x01\x01", []api.Raw{raw(3), raw(128)}, true, api.ErrLength},
		{nil, "\x00\xff\x00\x01", nil, false, api.ErrLength},
	} {
		l, all, e := Sub(c.types, []byte(c.b))
		if all != c.all || e != c.e {
			t.Errorf("Sub of %x by %d: %v, %v", c.b, c.types, all, e)
		}
		wantRaws(t, c.b, l, c.want)
	}
}

func TestSubOfEveryType(t *testing.T) { // P5.5
	for kind := range 256 {
		k := uint8(kind)
		b := []byte{k, 1, k}
		if k == 0 {
			b = b[:1]
		}
		var others []uint8
		for other := range 256 {
			if other != kind {
				others = append(others, uint8(other))
			}
		}
		for _, types := range [][]uint8{nil, {k}, others, append(others, k)} {
			known := len(types) == 1 || len(types) == 256
			var want []api.Raw
			if known && kind > 1 {
				want = []api.Raw{raw(k, k)}
			}
			l, all, e := Sub(types, b)
			if all != (known || kind < 128) || e != api.OK {
				t.Errorf("Sub of type %d by %d types: %v, %v", kind, len(types), all, e)
			}
			wantRaws(t, b, l, want)
		}
	}
}

func TestSubOfAnyBytes(t *testing.T) { // P5.5
	look := func(b []byte) {
		for _, types := range [][]uint8{nil, {3}, {128}, {3, 128}, {2, 255, 0}, {1, 129, 3, 127, 1, 3}} {
			l, all, e := Sub(types, b)
			want, wantAll, why := subByHand(types, b)
			wantRaws(t, b, l, want)
			if all != wantAll || e != why {
				t.Fatalf("Sub of %x by %d: %v, %v, want %v, %v", b, types, all, e, wantAll, why)
			}
		}
	}
	shorts(look)
	longs(55, look)
}

func TestSubIsNewMemory(t *testing.T) { // P5.5
	for _, s := range []string{"\x03\x03abc\x00\x05\x01z\x80\x02de", "\x03\x03abc\x00\x05\x01z\x80\x02de\x03\x01"} {
		want := []api.Raw{raw(3, []byte("abc")...), raw(128, []byte("de")...)}
		b, types := roomy(s), roomy("\x80\x03")
		first, _, _ := Sub(types, b)
		second, _, _ := Sub(types, b)
		spoilRaws(second[len(second):])
		wantRaws(t, "ahead of the spare room", second, want)
		spoil(second[0].Body)
		wantRaws(t, "behind the first", second[1:], want[1:])
		spoilRaws(second)
		untouched(t, b, s)
		untouched(t, types, "\x80\x03")
		spoil(b, types)
		wantRaws(t, "another answer", first, want)
	}
}

func TestOpenOfPacketIsTheBody(t *testing.T) { // P5.6
	for _, n := range []int{0, 1, 2, 3, 4, 5, 255, 256, 257, 1500, 32768, 65534, 65535} {
		p, _ := Packet(many(n))
		body, trailer, e := Open(p)
		if e != api.OK || !bytes.Equal(body, many(n)) || len(trailer) != 0 {
			t.Errorf("of %d bytes: %d and %d bytes, %v", n, len(body), len(trailer), e)
		}
		within, _ := Packet(p[:min(len(p), api.MaxBody)])
		if body, trailer, e = Open(within); e != api.OK || !bytes.Equal(body, p[:len(body)]) || len(trailer) != 0 {
			t.Errorf("of a packet of %d bytes: %d and %d bytes, %v", n, len(body), len(trailer), e)
		}
	}
}

func TestSplitOfJoinIsThePieces(t *testing.T) { // P5.6
	r := rand.New(rand.NewSource(56))
	for range 1000 {
		l := make([]api.Raw, r.Intn(20))
		for i := range l {
			if l[i].Type = uint8(r.Intn(256) >> r.Intn(8)); l[i].Type != 0 {
				l[i].Body = many(r.Intn(256) >> r.Intn(8))
			}
		}
		b, e := Join(l...)
		if e != api.OK {
			t.Fatalf("Join of %x: %v", l, e)
		}
		got, e := Split(b)
		if e != api.OK {
			t.Fatalf("Split of %x: %v", b, e)
		}
		wantRaws(t, b, got, l)
	}
}

func TestJoinOfSplitIsTheBytes(t *testing.T) { // P5.6
	look := func(b []byte) {
		l, e := Split(b)
		back, why := Join(l...)
		if why != api.OK || !bytes.HasPrefix(b, back) || e == api.OK && len(back) != len(b) {
			t.Fatalf("%x: %x and back %x, %v, %v", b, l, back, e, why)
		}
	}
	shorts(look)
	longs(56, look)
}

func TestSplitOfEveryBeginning(t *testing.T) { // P5.7
	look := func(b []byte) {
		whole, _ := Split(b)
		at, ended := 0, 0 // how many pieces end by n, and where the last of these ends
		for n := range len(b) + 1 {
			if at < len(whole) && n == ended+size(whole[at]) {
				ended = n
				at++
			}
			l, e := Split(b[:n])
			wantRaws(t, b[:n], l, whole[:at])
			if (e == api.OK) != (n == ended) || e != api.OK && e != api.ErrLength {
				t.Fatalf("Split of %x, the beginning of %x: %v", b[:n], b, e)
			}
		}
		if at != len(whole) {
			t.Fatalf("%x: %d of %d pieces", b, at, len(whole))
		}
	}
	shorts(look)
	longs(57, look)
}

// size is how many bytes a piece takes.
func size(p api.Raw) int {
	if p.Type == 0 {
		return 1
	}
	return 2 + len(p.Body)
}

// Whatever the bytes are, a call ends, none panics, and what it is given stays as it was (rules 1 and 3).
func FuzzAnyBytes(f *testing.F) {
	f.Add([]byte{3, 128}, []byte("\x2a\x02\x00\x05\x03\x01a\x80\x00t"))
	f.Add([]byte{}, []byte("\x00\x01"))
	f.Fuzz(func(t *testing.T, types, b []byte) {
		given, named := slices.Clone(b), slices.Clone(types)
		Packet(b)
		Open(b)
		l, _ := Split(b)
		Join(l...)
		Sub(types, b)
		if !bytes.Equal(b, given) || !bytes.Equal(types, named) {
			t.Fatalf("%x, %x have become %x, %x", named, given, types, b)
		}
	})
}
