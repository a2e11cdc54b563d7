package octet

import (
	"bytes"
	"math"
	"testing"

	"culvert/api"
)

// puts are the four functions, each with something to lay behind b (which is want then), and with nothing.
var puts = []struct {
	name string
	some func(b []byte) []byte
	none func(b []byte) []byte
	want string
}{
	{"Put8", func(b []byte) []byte { return Put8(b, 0, 1, 127, 128, 254, 255) }, func(b []byte) []byte { return Put8(b) }, "\x00\x01\x7f\x80\xfe\xff"},
	{"Put16", func(b []byte) []byte { return Put16(b, 258, 0xfffe, 5) }, func(b []byte) []byte { return Put16(b) }, "\x01\x02\xff\xfe\x00\x05"},
	{"Put32", func(b []byte) []byte { return Put32(b, 0x01020304, 0xfffefdfc) }, func(b []byte) []byte { return Put32(b) }, "\x01\x02\x03\x04\xff\xfe\xfd\xfc"},
	{"PutBytes", func(b []byte) []byte { return PutBytes(b, []byte("ab"), nil, []byte{}, []byte("cdef")) }, func(b []byte) []byte { return PutBytes(b) }, "abcdef"},
}

// P1.1: b, and behind it each of l.
func TestPutLaysBehind(t *testing.T) {
	for _, p := range puts {
		for _, b := range [][]byte{nil, {}, []byte("x"), []byte("xyz"), make([]byte, 300)} {
			if got := p.some(b); string(got) != string(b)+p.want {
				t.Errorf("%s behind %d bytes: %x", p.name, len(b), got)
			}
			if got := p.none(b); string(got) != string(b) {
				t.Errorf("%s of none behind %d bytes: %x", p.name, len(b), got)
			}
		}
	}
}

// P1.1: the highest byte comes first, each of the numbers' bytes has its place.
func TestPutHighestFirst(t *testing.T) {
	if got := Put16(nil, 258, 5); string(got) != "\x01\x02\x00\x05" {
		t.Errorf("Put16: %x", got)
	}
	for i := range 4 {
		want := make([]byte, 4)
		want[3-i] = 0xa5
		if got := Put32(nil, 0xa5<<(8*i)); !bytes.Equal(got, want) {
			t.Errorf("Put32 of byte %d: %x", i, got)
		}
	}
	for i := range 2 {
		want := make([]byte, 2)
		want[1-i] = 0xa5
		if got := Put16(nil, 0xa5<<(8*i)); !bytes.Equal(got, want) {
			t.Errorf("Put16 of byte %d: %x", i, got)
		}
	}
}

// P1.1: b's own bytes are as they were, and the answer shares nothing with b, even where b has room to spare.
func TestPutSharesNothing(t *testing.T) {
	for _, p := range puts {
		for _, f := range []func([]byte) []byte{p.some, p.none} {
			whole := []byte("abc..............")
			b := whole[:3]
			got := f(b)
			if string(b) != "abc" {
				t.Errorf("%s: b has become %q", p.name, b)
			}
			kept := string(got)
			for i := range whole {
				whole[i] = '!'
			}
			if string(got) != kept {
				t.Errorf("%s: the answer has become %q with b", p.name, got)
			}
			for i := range got {
				got[i] = '?'
			}
			if string(b) != "!!!" {
				t.Errorf("%s: b has become %q with the answer", p.name, b)
			}
		}
	}
}

// P1.1: two answers behind one b are apart.
func TestPutTwiceBehindOne(t *testing.T) {
	b := make([]byte, 1, 64)
	first, second := Put8(b, 1), Put8(b, 2)
	if first[1] != 1 || second[1] != 2 {
		t.Errorf("Put8: %x, %x", first, second)
	}
	third, fourth := Put16(b, 0x0101), Put16(b, 0x0202)
	if string(third) != "\x00\x01\x01" || string(fourth) != "\x00\x02\x02" {
		t.Errorf("Put16: %x, %x", third, fourth)
	}
	fifth, sixth := Put32(b, 0x01010101), Put32(b, 0x02020202)
	if string(fifth) != "\x00\x01\x01\x01\x01" || string(sixth) != "\x00\x02\x02\x02\x02" {
		t.Errorf("Put32: %x, %x", fifth, sixth)
	}
	seventh, eighth := PutBytes(b, []byte{1}), PutBytes(b, []byte{2})
	if seventh[1] != 1 || eighth[1] != 2 {
		t.Errorf("PutBytes: %x, %x", seventh, eighth)
	}
}

// P1.1: what is laid may be b itself, or lie in its spare room, in another order than there; it is not changed.
func TestPutOfItself(t *testing.T) {
	whole := []byte("abcdef")
	b := whole[:2]
	if got := PutBytes(b, b, whole[4:6], whole[2:4]); string(got) != "abab"+"ef"+"cd" {
		t.Errorf("PutBytes: %q", got)
	}
	if got := Put8(b, whole[1:5]...); string(got) != "abbcde" {
		t.Errorf("Put8: %q", got)
	}
	if string(whole) != "abcdef" {
		t.Errorf("what was handed in has become %q", whole)
	}
}

// P1.1: what was laid is copied.
func TestPutKeepsNoArgument(t *testing.T) {
	one, many := []byte("ab"), []uint8{1, 2}
	fromBytes, from8 := PutBytes(nil, one), Put8(nil, many...)
	one[0], many[0] = '!', 9
	if string(fromBytes) != "ab" || string(from8) != "\x01\x02" {
		t.Errorf("%q, %x", fromBytes, from8)
	}
}

func wantState(t *testing.T, what string, r *Reader, at, left int, e api.Errno, where int) {
	t.Helper()
	if r.At() != at || r.Left() != left {
		t.Errorf("%s: at %d with %d left, not at %d with %d", what, r.At(), r.Left(), at, left)
	}
	if got, place := r.Why(); got != e || place != where {
		t.Errorf("%s: why is %d at %d, not %d at %d", what, got, place, e, where)
	}
}

// P1.2: a reader at place 0 without an error, of the bytes as they are then.
func TestNew(t *testing.T) {
	for _, p := range [][]byte{nil, {}} {
		r := New(p)
		if r == nil {
			t.Fatal("no reader")
		}
		wantState(t, "of none", r, 0, 0, api.OK, 0)
		if e := r.Done(); e != api.OK {
			t.Errorf("of none: done is %d", e)
		}
	}
	p := []byte("abcd")
	r := New(p[:3])
	wantState(t, "of three", r, 0, 3, api.OK, 0)
	p[0], p[1], p[3] = '!', '!', '!'
	if got := r.Rest(); string(got) != "abc" {
		t.Errorf("the reader's bytes have become %q", got)
	}
	if string(p) != "!!c!" {
		t.Errorf("p has become %q", p)
	}
}

// P1.2: two readers of one p go their own ways.
func TestNewApart(t *testing.T) {
	p := []byte{1, 2, 3}
	a, b := New(p), New(p)
	a.U16()
	a.Fail(api.ErrFull)
	wantState(t, "the first", a, 2, 1, api.ErrFull, 2)
	wantState(t, "the second", b, 0, 3, api.OK, 0)
}

// P1.3: numbers and bytes one behind the other; the reader stands behind what it read.
func TestRead(t *testing.T) {
	r := New([]byte("\xfe\x01\x02\xf1\x02\x03\x04abcde"))
	if v := r.U8(); v != 0xfe {
		t.Errorf("U8: %x", v)
	}
	wantState(t, "U8", r, 1, 11, api.OK, 0)
	if v := r.U16(); v != 0x0102 {
		t.Errorf("U16: %x", v)
	}
	wantState(t, "U16", r, 3, 9, api.OK, 0)
	if v := r.U32(); v != 0xf1020304 {
		t.Errorf("U32: %x", v)
	}
	wantState(t, "U32", r, 7, 5, api.OK, 0)
	if v := r.Bytes(2); string(v) != "ab" {
		t.Errorf("Bytes: %q", v)
	}
	wantState(t, "Bytes", r, 9, 3, api.OK, 0)
	if v := r.Bytes(0); len(v) != 0 {
		t.Errorf("Bytes of 0: %q", v)
	}
	wantState(t, "Bytes of 0", r, 9, 3, api.OK, 0)
	if v := r.Rest(); string(v) != "cde" {
		t.Errorf("Rest: %q", v)
	}
	wantState(t, "Rest", r, 12, 0, api.OK, 0)
	if v := r.Rest(); len(v) != 0 {
		t.Errorf("Rest again: %q", v)
	}
	if v := r.Bytes(0); len(v) != 0 {
		t.Errorf("Bytes of 0 at the end: %q", v)
	}
	wantState(t, "at the end", r, 12, 0, api.OK, 0)
	if e := r.Done(); e != api.OK {
		t.Errorf("done: %d", e)
	}
}

// P1.3: just as many bytes as are asked for are enough.
func TestReadJustEnough(t *testing.T) {
	for _, c := range reads {
		if c.n < 0 || c.n > 8 {
			continue
		}
		r := New(bytes.Repeat([]byte{7}, c.n))
		c.read(r)
		wantState(t, c.name, r, c.n, 0, api.OK, 0)
	}
}

// reads are the ways to read: how many bytes each takes, its error if there are too few, and whether it answered something.
var reads = []struct {
	name string
	n    int
	e    api.Errno
	read func(r *Reader) bool
}{
	{"U8", 1, api.ErrShort, func(r *Reader) bool { return r.U8() != 0 }},
	{"U16", 2, api.ErrShort, func(r *Reader) bool { return r.U16() != 0 }},
	{"U32", 4, api.ErrShort, func(r *Reader) bool { return r.U32() != 0 }},
	{"Bytes of 5", 5, api.ErrShort, func(r *Reader) bool { return len(r.Bytes(5)) != 0 }},
	{"Bytes of the greatest int", math.MaxInt, api.ErrShort, func(r *Reader) bool { return len(r.Bytes(math.MaxInt)) != 0 }},
	{"Bytes of -1", -1, api.ErrArg, func(r *Reader) bool { return len(r.Bytes(-1)) != 0 }},
	{"Bytes of the least int", math.MinInt, api.ErrArg, func(r *Reader) bool { return len(r.Bytes(math.MinInt)) != 0 }},
}

// P1.3: an error, where fewer are left than asked, or the count is below 0: nothing is read, and the reader moves no more.
func TestReadErrors(t *testing.T) {
	for _, c := range reads {
		for left := 0; left < 5 && (c.n < 0 || left < c.n); left++ {
			for ahead := range 3 {
				r := New(bytes.Repeat([]byte{7}, ahead+left))
				r.Bytes(ahead)
				if c.read(r) {
					t.Errorf("%s of %d: an answer", c.name, left)
				}
				wantState(t, c.name, r, ahead, left, c.e, ahead)
				wantStuck(t, r, ahead, left, c.e)
			}
		}
	}
}

// wantStuck: each call answers 0 and none, and the error stays.
func wantStuck(t *testing.T, r *Reader, at, left int, e api.Errno) {
	t.Helper()
	for _, c := range reads {
		if c.read(r) {
			t.Errorf("%s behind an error: an answer", c.name)
		}
		wantState(t, c.name+" behind an error", r, at, left, e, at)
	}
	if got := r.Bytes(0); len(got) != 0 {
		t.Errorf("Bytes of 0 behind an error: %x", got)
	}
	if got := r.Rest(); len(got) != 0 {
		t.Errorf("Rest behind an error: %x", got)
	}
	r.Fail(api.ErrFull)
	r.Fail(api.OK)
	wantState(t, "behind all", r, at, left, e, at)
	if got := r.Done(); got != e {
		t.Errorf("done behind an error: %d, not %d", got, e)
	}
}

// P1.3: the bytes that are told are new memory, apart from each other and from what the reader has.
func TestReadNewMemory(t *testing.T) {
	p := []byte("abcdef")
	r := New(p)
	first := r.Bytes(2)
	first[0] = '!'
	_ = append(first, "!!!!"...)
	second := r.Bytes(2)
	if string(second) != "cd" {
		t.Errorf("Bytes: %q", second)
	}
	_ = append(second, "!!!!"...)
	rest := r.Rest()
	if string(rest) != "ef" || string(first) != "!b" || string(p) != "abcdef" {
		t.Errorf("%q, %q, %q", rest, first, p)
	}
	p[4] = '?'
	if string(rest) != "ef" {
		t.Errorf("Rest has become %q with p", rest)
	}
}

// P1.4: Fail makes the error at this place, but not of OK, and not behind another one.
func TestFail(t *testing.T) {
	for _, e := range []api.Errno{api.ErrLong, api.ErrTail, api.ErrOff, -1, 12345} {
		r := New([]byte{1, 2, 3})
		r.U8()
		r.Fail(api.OK)
		wantState(t, "Fail of OK", r, 1, 2, api.OK, 0)
		if r.U8() != 2 {
			t.Error("Fail of OK stops the reader")
		}
		r.Fail(e)
		wantState(t, "Fail", r, 2, 1, e, 2)
		wantStuck(t, r, 2, 1, e)
	}
	r := New([]byte{1})
	r.Fail(api.ErrLong)
	wantState(t, "Fail at 0", r, 0, 1, api.ErrLong, 0)
	r = New([]byte{1})
	r.U8()
	r.Fail(api.ErrLong)
	wantState(t, "Fail at the end", r, 1, 0, api.ErrLong, 1)
	if e := r.Done(); e != api.ErrLong {
		t.Errorf("done: %d", e)
	}
}

// P1.4: bytes left at Done are ErrTail, which is no error of the reader.
func TestDoneTail(t *testing.T) {
	r := New([]byte{1, 2})
	for range 2 {
		if e := r.Done(); e != api.ErrTail {
			t.Errorf("done at 0: %d", e)
		}
		wantState(t, "Done", r, 0, 2, api.OK, 0)
	}
	if r.U8() != 1 || r.Done() != api.ErrTail || r.U8() != 2 {
		t.Error("Done stops the reader")
	}
	if e := r.Done(); e != api.OK {
		t.Errorf("done at the end: %d", e)
	}
	r.U8()
	if e := r.Done(); e != api.ErrShort {
		t.Errorf("done behind the end: %d", e)
	}
}

// P1.4: a nil Reader answers 0, none, OK, whatever is asked.
func TestNilReader(t *testing.T) {
	var r *Reader
	for range 2 {
		for _, c := range reads {
			if c.read(r) {
				t.Errorf("%s: an answer", c.name)
			}
		}
		if got := r.Bytes(0); len(got) != 0 {
			t.Errorf("Bytes of 0: %x", got)
		}
		if got := r.Rest(); len(got) != 0 {
			t.Errorf("Rest: %x", got)
		}
		wantState(t, "nil", r, 0, 0, api.OK, 0)
		if e := r.Done(); e != api.OK {
			t.Errorf("done: %d", e)
		}
		r.Fail(api.ErrArg)
	}
}

// P1.5: all numbers of one and two bytes are read back.
func TestThereAndBackAll(t *testing.T) {
	var b []byte
	for v := range 256 {
		b = Put8(b, uint8(v))
	}
	var all []uint16
	for v := range 65536 {
		all = append(all, uint16(v))
	}
	r := New(Put16(b, all...))
	for v := range 256 {
		if got := r.U8(); got != uint8(v) {
			t.Fatalf("U8: %d, not %d", got, v)
		}
	}
	for v := range 65536 {
		if got := r.U16(); got != uint16(v) {
			t.Fatalf("U16: %d, not %d", got, v)
		}
	}
	if e := r.Done(); e != api.OK {
		t.Errorf("done: %d", e)
	}
}

// P1.5: whatever was put, of all kinds in turn, is read back, to the end.
func TestThereAndBackMixed(t *testing.T) {
	type row struct {
		a uint8
		b uint16
		c uint32
		d []byte
	}
	var rows []row
	var out []byte
	x := uint32(1)
	for i := range 200 {
		x = x*1664525 + 1013904223
		w := row{uint8(x >> 24), uint16(x >> 16), x, bytes.Repeat([]byte{byte(x >> 20)}, i%7)}
		rows = append(rows, w)
		out = PutBytes(Put32(Put16(Put8(out, w.a), w.b), w.c, ^w.c), w.d)
	}
	out = PutBytes(out, []byte("the rest"))
	r := New(out)
	for i, w := range rows {
		if r.U8() != w.a || r.U16() != w.b || r.U32() != w.c || r.U32() != ^w.c || !bytes.Equal(r.Bytes(len(w.d)), w.d) {
			t.Fatalf("row %d, at %d", i, r.At())
		}
		if r.Done() != api.ErrTail {
			t.Fatalf("row %d is the last one", i)
		}
	}
	if got := r.Rest(); string(got) != "the rest" {
		t.Errorf("rest: %q", got)
	}
	wantState(t, "the end", r, len(out), 0, api.OK, 0)
	if e := r.Done(); e != api.OK {
		t.Errorf("done: %d", e)
	}
}

// P1.5: numbers of four bytes at their edges are read back.
func TestThereAndBack32(t *testing.T) {
	var l []uint32
	for i := range 32 {
		l = append(l, 1<<i, 1<<i-1, ^uint32(1<<i))
	}
	r := New(Put32(nil, l...))
	for _, v := range l {
		if got := r.U32(); got != v {
			t.Errorf("U32: %x, not %x", got, v)
		}
	}
	if e := r.Done(); e != api.OK {
		t.Errorf("done: %d", e)
	}
}
