package octet_test

import (
	"bytes"
	"math"
	"testing"

	"paintbox/api"
	"paintbox/octet"
)

func wantBytes(t *testing.T, what string, got, want []byte) {
	t.Helper()
	if !bytes.Equal(got, want) {
		t.Errorf("%s: got % X, want % X", what, got, want)
	}
}

func wantReader(t *testing.T, what string, r *octet.Reader, left int, err api.Errno) {
	t.Helper()
	if r.Left() != left || r.Err() != err {
		t.Errorf("%s: got %d left and error %d, want %d and %d", what, r.Left(), r.Err(), left, err)
	}
}

// P1.1: ordinary numbers, the least and the greatest, behind bytes and behind none.
func TestPut16(t *testing.T) {
	for _, c := range []struct {
		b    []byte
		x    uint16
		want []byte
	}{
		{[]byte{7}, 258, []byte{7, 2, 1}},
		{nil, 0, []byte{0, 0}},
		{[]byte{}, math.MaxUint16, []byte{0xFF, 0xFF}},
		{nil, 0x00FF, []byte{0xFF, 0}},
		{nil, 0xFF00, []byte{0, 0xFF}},
		{[]byte{1, 2, 3}, 0x8001, []byte{1, 2, 3, 1, 0x80}},
	} {
		wantBytes(t, "Put16", octet.Put16(c.b, c.x), c.want)
	}
}

// P1.1: the same of four bytes.
func TestPut32(t *testing.T) {
	for _, c := range []struct {
		b    []byte
		x    uint32
		want []byte
	}{
		{nil, 1, []byte{1, 0, 0, 0}},
		{nil, 0, []byte{0, 0, 0, 0}},
		{[]byte{}, math.MaxUint32, []byte{0xFF, 0xFF, 0xFF, 0xFF}},
		{[]byte{9, 8}, 0x04030201, []byte{9, 8, 1, 2, 3, 4}},
		{nil, 0x80000000, []byte{0, 0, 0, 0x80}},
	} {
		wantBytes(t, "Put32", octet.Put32(c.b, c.x), c.want)
	}
}

// P1.1: the list is new; what was handed in, and the room behind it, stay.
func TestPutIsNew(t *testing.T) {
	puts := map[string]func([]byte) []byte{
		"Put16": func(b []byte) []byte { return octet.Put16(b, 0x0201) },
		"Put32": func(b []byte) []byte { return octet.Put32(b, 0x04030201) },
	}
	for name, put := range puts {
		room := []byte{7, 8, 50, 51, 52, 53}
		got := put(room[:2])
		wantBytes(t, name+" room", room, []byte{7, 8, 50, 51, 52, 53})
		room[0] = 99
		if got[0] != 7 {
			t.Errorf("%s: the answer shares memory with what was handed in", name)
		}
		got[1] = 77
		if room[1] != 8 {
			t.Errorf("%s: what was handed in shares memory with the answer", name)
		}
	}
}

// P1.2: a new Reader stands ahead of the first byte, without an error.
func TestReadBegins(t *testing.T) {
	for _, b := range [][]byte{nil, {}, {1}, {1, 2, 3}} {
		r := octet.Read(b)
		if r == nil {
			t.Fatal("Read: no Reader")
		}
		wantReader(t, "Read", r, len(b), api.OK)
	}
}

// P1.2: each call takes its bytes, the lowest first, one behind another.
func TestReadNumbers(t *testing.T) {
	r := octet.Read([]byte{0xFE, 1, 2, 4, 3, 2, 0x81})
	if x := r.U8(); x != 0xFE {
		t.Errorf("U8: %d", x)
	}
	wantReader(t, "U8", r, 6, api.OK)
	if x := r.U16(); x != 513 {
		t.Errorf("U16: %d", x)
	}
	wantReader(t, "U16", r, 4, api.OK)
	if x := r.U32(); x != 0x81020304 {
		t.Errorf("U32: %#x", x)
	}
	wantReader(t, "U32", r, 0, api.OK)
}

// P1.2, P1.3: signed numbers, above and below 0, to both ends.
func TestReadSigned(t *testing.T) {
	r := octet.Read([]byte{0xFF, 0xFF, 0xFF, 0x7F})
	if a, b, c := r.I8(), r.I8(), r.I16(); a != -1 || b != -1 || c != 32767 {
		t.Errorf("I8, I8, I16: %d %d %d", a, b, c)
	}
	wantReader(t, "signed", r, 0, api.OK)
	for _, x := range []int8{math.MinInt8, -2, -1, 0, 1, math.MaxInt8} {
		if got := octet.Read([]byte{byte(x)}).I8(); got != x {
			t.Errorf("I8: got %d, want %d", got, x)
		}
	}
	for _, x := range []int16{math.MinInt16, -257, -1, 0, 1, 256, math.MaxInt16} {
		r := octet.Read(octet.Put16(nil, uint16(x)))
		if got := r.I16(); got != x {
			t.Errorf("I16: got %d, want %d", got, x)
		}
		wantReader(t, "I16", r, 0, api.OK)
	}
	for _, x := range []int32{math.MinInt32, -65537, -1, 0, 1, 65536, math.MaxInt32} {
		r := octet.Read(octet.Put32(nil, uint32(x)))
		if got := r.I32(); got != x {
			t.Errorf("I32: got %d, want %d", got, x)
		}
		wantReader(t, "I32", r, 0, api.OK)
	}
}

// numberCalls are the calls that take a set count of bytes, each with its answer as an int64.
func numberCalls() []struct {
	name string
	size int
	call func(*octet.Reader) int64
} {
	return []struct {
		name string
		size int
		call func(*octet.Reader) int64
	}{
		{"U8", 1, func(r *octet.Reader) int64 { return int64(r.U8()) }},
		{"U16", 2, func(r *octet.Reader) int64 { return int64(r.U16()) }},
		{"U32", 4, func(r *octet.Reader) int64 { return int64(r.U32()) }},
		{"I8", 1, func(r *octet.Reader) int64 { return int64(r.I8()) }},
		{"I16", 2, func(r *octet.Reader) int64 { return int64(r.I16()) }},
		{"I32", 4, func(r *octet.Reader) int64 { return int64(r.I32()) }},
	}
}

// P1.2: just as many bytes as are asked for are enough; with fewer it is 0 and ErrShort, and the Reader stays.
func TestReadShort(t *testing.T) {
	for _, c := range numberCalls() {
		full := bytes.Repeat([]byte{0x11}, c.size)
		r := octet.Read(full)
		if c.call(r) == 0 {
			t.Errorf("%s: 0 of just enough bytes", c.name)
		}
		wantReader(t, c.name+" just enough", r, 0, api.OK)
		for n := range c.size {
			r := octet.Read(full[:n])
			if x := c.call(r); x != 0 {
				t.Errorf("%s of %d bytes: %d", c.name, n, x)
			}
			wantReader(t, c.name+" too few", r, n, api.ErrShort)
		}
	}
}

// P1.2: the room behind the end of what was handed in is not read.
func TestReadEndsAtEnd(t *testing.T) {
	room := []byte{1, 2, 3, 4}
	r := octet.Read(room[:1])
	if x := r.U16(); x != 0 {
		t.Errorf("U16 beyond the end: %d", x)
	}
	wantReader(t, "beyond the end", r, 1, api.ErrShort)
}

// P1.2: Raw and Skip, from none to all that is left.
func TestRawAndSkip(t *testing.T) {
	r := octet.Read([]byte{1, 2, 3, 4, 5})
	wantBytes(t, "Raw(0)", r.Raw(0), nil)
	wantReader(t, "Raw(0)", r, 5, api.OK)
	wantBytes(t, "Raw(2)", r.Raw(2), []byte{1, 2})
	wantReader(t, "Raw(2)", r, 3, api.OK)
	r.Skip(0)
	wantReader(t, "Skip(0)", r, 3, api.OK)
	r.Skip(1)
	wantReader(t, "Skip(1)", r, 2, api.OK)
	wantBytes(t, "Raw of the rest", r.Raw(2), []byte{4, 5})
	wantBytes(t, "Raw(0) at the end", r.Raw(0), nil)
	r.Skip(0)
	wantReader(t, "the end", r, 0, api.OK)
}

// P1.2, P1.3: wrong counts: ErrShort above, ErrArg below 0, of Raw and of Skip alike.
func TestWrongCounts(t *testing.T) {
	for _, c := range []struct {
		n   int
		err api.Errno
	}{
		{4, api.ErrShort}, {math.MaxInt, api.ErrShort}, {-1, api.ErrArg}, {math.MinInt, api.ErrArg},
	} {
		for _, passed := range []int{0, 1} {
			r, s := octet.Read([]byte{1, 2, 3}), octet.Read([]byte{1, 2, 3})
			r.Skip(passed)
			s.Skip(passed)
			wantBytes(t, "Raw of a wrong count", r.Raw(c.n), nil)
			s.Skip(c.n)
			wantReader(t, "Raw of a wrong count", r, 3-passed, c.err)
			wantReader(t, "Skip of a wrong count", s, 3-passed, c.err)
		}
	}
	r := octet.Read(nil)
	wantBytes(t, "Raw(-1) of none", r.Raw(-1), nil)
	wantReader(t, "Raw(-1) of none", r, 0, api.ErrArg)
}

// P1.2: behind an error all calls answer 0 or nothing; the first error and the place stay.
func TestBehindAnError(t *testing.T) {
	for _, c := range []struct {
		n   int
		err api.Errno
	}{{9, api.ErrShort}, {-9, api.ErrArg}} {
		r := octet.Read([]byte{1, 2, 3, 4, 5, 6})
		r.U8()
		r.Skip(c.n)
		for _, call := range numberCalls() {
			if x := call.call(r); x != 0 {
				t.Errorf("%s behind an error: %d", call.name, x)
			}
		}
		for _, n := range []int{-1, 0, 1, 5, 6} {
			wantBytes(t, "Raw behind an error", r.Raw(n), nil)
			r.Skip(n)
			wantReader(t, "behind an error", r, 5, c.err)
		}
	}
}

// P1.2: the chapter's example.
func TestExample(t *testing.T) {
	r := octet.Read([]byte{1, 2, 5})
	if x := r.U16(); x != 513 || r.Left() != 1 {
		t.Errorf("U16: %d, %d left", x, r.Left())
	}
	if x := r.U16(); x != 0 {
		t.Errorf("U16 too short: %d", x)
	}
	wantBytes(t, "Raw(1)", r.Raw(1), nil)
	wantReader(t, "the example", r, 1, api.ErrShort)
}

// P1.2: of a nil Reader zeros and nothing, and ErrNil.
func TestNilReader(t *testing.T) {
	var r *octet.Reader
	for _, c := range numberCalls() {
		if x := c.call(r); x != 0 {
			t.Errorf("%s of nil: %d", c.name, x)
		}
	}
	for _, n := range []int{-1, 0, 1} {
		wantBytes(t, "Raw of nil", r.Raw(n), nil)
		r.Skip(n)
	}
	wantReader(t, "nil", r, 0, api.ErrNil)
}

// P1.2: the Reader keeps nothing of what it was handed, and hands out nothing of its own.
func TestReaderShares(t *testing.T) {
	b := []byte{1, 2, 3, 4}
	r := octet.Read(b)
	b[0], b[3] = 50, 50
	got := r.Raw(2)
	wantBytes(t, "Raw behind a change", got, []byte{1, 2})
	_ = append(got, 60, 60)
	got[0] = 60
	wantBytes(t, "what was handed in", b, []byte{50, 2, 3, 50})
	wantBytes(t, "Raw behind an append", r.Raw(2), []byte{3, 4})
}

// P1.2: two Readers of the same bytes go their own ways.
func TestReadersApart(t *testing.T) {
	b := []byte{1, 2}
	r, s := octet.Read(b), octet.Read(b)
	r.Skip(5)
	wantReader(t, "the one", r, 2, api.ErrShort)
	if x := s.U16(); x != 513 {
		t.Errorf("U16 of the other: %d", x)
	}
	wantReader(t, "the other", s, 0, api.OK)
}

// P1.3: all numbers of 16 bits, and each bit of 32, come back as they were put.
func TestRoundTrip(t *testing.T) {
	for i := range 1 << 16 {
		x := uint16(i)
		r := octet.Read(octet.Put16(nil, x))
		if got := r.U16(); got != x || r.Left() != 0 || r.Err() != api.OK {
			t.Fatalf("Put16, U16 of %d: %d, %d left, error %d", x, got, r.Left(), r.Err())
		}
	}
	for bit := range 32 {
		for _, x := range []uint32{1 << bit, ^uint32(1 << bit), 1<<bit - 1} {
			r := octet.Read(octet.Put32(nil, x))
			if got := r.U32(); got != x || r.Left() != 0 || r.Err() != api.OK {
				t.Fatalf("Put32, U32 of %d: %d, %d left, error %d", x, got, r.Left(), r.Err())
			}
		}
	}
}

// P1.3: several that were put in a row are read in that row.
func TestRoundTripRow(t *testing.T) {
	b := octet.Put16([]byte{0xAB}, 0xBEEF)
	b = octet.Put32(b, 0xDEADBEEF)
	b = octet.Put16(b, 3)
	r := octet.Read(b)
	if a, b, c, d := r.U8(), r.U16(), r.U32(), r.U16(); a != 0xAB || b != 0xBEEF || c != 0xDEADBEEF || d != 3 {
		t.Errorf("the row: %#x %#x %#x %#x", a, b, c, d)
	}
	wantReader(t, "the row", r, 0, api.OK)
}

// P1.3: Skip leaves a Reader as Raw does, for all counts about the edges.
func TestSkipIsRaw(t *testing.T) {
	for size := range 5 {
		b := []byte{1, 2, 3, 4}[:size]
		for n := -2; n <= 6; n++ {
			r, s := octet.Read(b), octet.Read(b)
			r.Raw(n)
			s.Skip(n)
			if r.Left() != s.Left() || r.Err() != s.Err() || r.U8() != s.U8() {
				t.Errorf("Raw(%d) and Skip(%d) of %d bytes leave other Readers", n, n, size)
			}
		}
	}
}
