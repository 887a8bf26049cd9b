package code_test

import (
	"bytes"
	"encoding/binary"
	"encoding/hex"
	"slices"
	"strings"
	"testing"

	"paintbox/api"
	"paintbox/code"
)

// laid answers numbers as bytes.
func laid(l ...int) []byte {
	var b []byte
	for _, x := range l {
		b = binary.LittleEndian.AppendUint32(b, uint32(x))
	}
	return b
}

// bytesOf answers a code's bytes, by the chapter's list.
func bytesOf(c api.Code) []byte {
	b := laid(1128353872, c.Stage, c.Regs, c.Attribs, c.Uniforms, c.Varyings, len(c.Instrs))
	for _, i := range c.Instrs {
		b = append(b, laid(i.Op, i.Fn, i.Base, i.N, i.Dst, i.A, i.B, i.C)...)
		for _, x := range i.Imm {
			b = append(b, laid(int(x))...)
		}
		b = append(b, laid(i.Places[:]...)...)
	}
	return b
}

// wantBytes asks for a code's bytes, and for the code of them.
func wantBytes(t *testing.T, what string, c api.Code, want []byte) {
	t.Helper()
	b, err := code.Encode(c)
	if err != api.OK || !bytes.Equal(b, want) {
		t.Errorf("%s: Encode: % x, %d; want % x", what, b, err, want)
	}
	d, err := code.Decode(want)
	if err != api.OK || !code.Same(d, c) || !equal(d, c) {
		t.Errorf("%s: Decode: %v, %d; want %v", what, d, err, c)
	}
}

// equal answers whether two codes are, without Same.
func equal(a, b api.Code) bool {
	return a.Stage == b.Stage && a.Regs == b.Regs && a.Attribs == b.Attribs && a.Uniforms == b.Uniforms && a.Varyings == b.Varyings && slices.Equal(a.Instrs, b.Instrs)
}

// wantNone asks whether bytes are no code's.
func wantNone(t *testing.T, what string, b []byte) {
	t.Helper()
	if c, err := code.Decode(b); err != api.ErrBytes || !equal(c, api.Code{}) {
		t.Errorf("%s: %v, %d", what, c, err)
	}
}

// P16.4: bytes that are written out: an empty code, each number of a head, an instruction with all of its numbers.
func TestBytes(t *testing.T) {
	for _, r := range []struct {
		what string
		c    api.Code
		hex  string
	}{
		{"an empty code", bare(vertex, 0), "50 50 41 43 01000000 00000000 00000000 00000000 00000000 00000000"},
		{"a head", api.Code{Stage: 1, Regs: 1024, Attribs: 8, Uniforms: 32, Varyings: 4}, "50504143 01000000 00040000 08000000 20000000 04000000 00000000"},
		{"a fragment's", api.Code{Stage: 2, Regs: 1, Uniforms: 2, Varyings: 3}, "50504143 02000000 01000000 00000000 02000000 03000000 00000000"},
		{"negative numbers", bare(vertex, 3, api.Instr{Op: 1, Dst: 2, Imm: api.Vec{-1, api.Least, api.Most, 258}}),
			"50504143 01000000 03000000 00000000 00000000 00000000 01000000" +
				"01000000 00000000 00000000 00000000 02000000 00000000 00000000 00000000 ffffffff 00000080 ffffff7f 02010000 00000000 00000000 00000000 00000000"},
		{"three arguments", bare(vertex, 9, api.Instr{Op: 5, Fn: 17, Base: 1, N: 3, Dst: 5, A: 6, B: 7, C: 8}),
			"50504143 01000000 09000000 00000000 00000000 00000000 01000000" +
				"05000000 11000000 01000000 03000000 05000000 06000000 07000000 08000000 00000000 00000000 00000000 00000000 00000000 00000000 00000000 00000000"},
		{"places", bare(fragment, 9, api.Instr{Op: 7, N: 4, Dst: 5, A: 6, Places: [4]int{3, 1, 0, 2}}),
			"50504143 02000000 09000000 00000000 00000000 00000000 01000000" +
				"07000000 00000000 00000000 04000000 05000000 06000000 00000000 00000000 00000000 00000000 00000000 00000000 03000000 01000000 00000000 02000000"},
	} {
		want, err := hex.DecodeString(strings.ReplaceAll(r.hex, " ", ""))
		if err != nil {
			t.Fatal(err)
		}
		wantBytes(t, r.what, r.c, want)
	}
}

// P16.4: of each Op, and of long codes.
func TestBytesOfAll(t *testing.T) {
	c := chance(21)
	for op := 1; op <= 12; op++ {
		for range 5 {
			x := api.Code{Stage: fragment, Regs: 300, Uniforms: 32, Varyings: 4}
			x.Instrs = []api.Instr{plain, plain, of(&c, x, op), plain}
			wantBytes(t, "an Op", x, bytesOf(x))
			if b, _ := code.Encode(x); len(b) != 28+4*64 {
				t.Errorf("%d bytes", len(b))
			}
		}
	}
	for _, n := range []int{300, 4095, 4096} {
		x := bare(vertex, 1024, alike(n, api.Instr{Op: api.OpConst, Dst: 1023})...)
		wantBytes(t, "a long code", x, bytesOf(x))
	}
	wantNone(t, "too long a code", bytesOf(bare(vertex, 1, alike(4097, plain)...)))
}

// P16.4, P16.5: chance codes to bytes and back; with a byte left out or added, anywhere, they are none.
func TestBytesChance(t *testing.T) {
	c := chance(31)
	for range 150 {
		x := goodCode(&c, 5)
		b := bytesOf(x)
		wantBytes(t, "a chance code", x, b)
		for k := range b {
			wantNone(t, "a byte too few at the end", b[:k])
			wantNone(t, "a byte left out", slices.Delete(slices.Clone(b), k, k+1))
		}
		for range 20 {
			wantNone(t, "a byte added", slices.Insert(slices.Clone(b), c.below(len(b)+1), byte(c.below(256))))
		}
		for n := 1; n <= 70; n++ {
			wantNone(t, "bytes added at the end", append(slices.Clone(b), make([]byte, n)...))
		}
	}
}

// P16.4: a byte that is changed makes another code, or none; never the same one.
func TestBytesChanged(t *testing.T) {
	c := chance(41)
	for range 60 {
		x := goodCode(&c, 3)
		b := bytesOf(x)
		for k := range b {
			y := slices.Clone(b)
			y[k] ^= byte(1 << c.below(8))
			d, err := code.Decode(y)
			if err == api.OK && (!bytes.Equal(bytesOf(d), y) || code.Same(d, x) || code.Check(d) != api.OK) || err != api.OK && (err != api.ErrBytes || !equal(d, api.Code{})) {
				t.Fatalf("% x: %v, %d", y, d, err)
			}
		}
	}
}

// P16.4: bytes that are too few, another first number, a count that does not fit, numbers that no code that may be has.
func TestDecodeRefuses(t *testing.T) {
	head := func(l ...int) []byte { return laid(append([]int{1128353872}, l...)...) }
	constant := laid(1, 0, 0, 0, 0, 0, 0, 0, 5, 6, 7, 8, 0, 0, 0, 0)
	if _, err := code.Decode(append(head(1, 1, 0, 0, 0, 1), constant...)); err != api.OK {
		t.Errorf("what the others are made of: %d", err)
	}
	wantNone(t, "nothing", nil)
	wantNone(t, "nothing", []byte{})
	wantNone(t, "a first number alone", laid(1128353872))
	wantNone(t, "noughts", make([]byte, 28))
	for _, x := range []int{0, 1128353871, 1128353873, -1128353872, 0x50434143} {
		wantNone(t, "another first number", laid(x, 1, 0, 0, 0, 0, 0))
	}
	for _, n := range []int{0, 2, 3, 4096, 4097, -1, 1 << 26, 1<<26 + 1, 1 << 31} {
		wantNone(t, "a count that does not fit", append(head(1, 1, 0, 0, 0, n), constant...))
	}
	for _, n := range []int{1, 2, -1, 1 << 26, 1 << 31} {
		wantNone(t, "a count without instructions", head(1, 1, 0, 0, 0, n))
	}
	for k, most := range []int{2, 1024, 8, 32, 4} {
		for _, v := range []int{most + 1, most + 2, 1 << 16, 1 << 24, 1 << 31, -1, -2} {
			l := []int{1, 1, 0, 0, 0, 0}
			l[k] = v
			wantNone(t, "a head that may not be", head(l...))
		}
	}
	wantNone(t, "no stage", head(0, 1, 0, 0, 0, 0))
	wantNone(t, "attributes of a fragment's", head(2, 1, 1, 0, 0, 0))
	for k := range 16 {
		l := []int{1, 0, 0, 0, 0, 0, 0, 0, 5, 6, 7, 8, 0, 0, 0, 0}
		for _, v := range []int{1 << 31, -1, 13, 1 << 16} {
			l[k] = v
			b := append(head(1, 1, 0, 0, 0, 1), laid(l...)...)
			if k >= 8 && k < 12 {
				if d, err := code.Decode(b); err != api.OK || d.Instrs[0].Imm[k-8] != api.Fix(int32(uint32(v))) {
					t.Errorf("Imm %d: %v, %d", v, d, err)
				}
				continue
			}
			wantNone(t, "an instruction that may not be", b)
		}
	}
	wantNone(t, "a jump back", append(head(1, 1, 0, 0, 0, 1), laid(10, 0, 0, 0, 0, 0, 0, 0, 0, 0, 0, 0, 0, 0, 0, 0)...))
}

// P16.4: no bytes of codes that may not be.
func TestEncodeRefuses(t *testing.T) {
	for _, c := range []api.Code{{}, bare(0, 1), bare(vertex, 1025), bare(vertex, 1<<32+1), bare(vertex+1<<32, 1), bare(vertex, 1, discard), bare(vertex, 1, alike(4097, plain)...), bare(vertex, 1, api.Instr{Op: 1, Dst: 1 << 32})} {
		if b, err := code.Encode(c); b != nil || err != api.ErrCode {
			t.Errorf("%d bytes, %d", len(b), err)
		}
	}
}

// P16.4: two codes are the same, field by field, whether they may be or not.
func TestSame(t *testing.T) {
	c := chance(51)
	for range 200 {
		x := goodCode(&c, 4)
		y := x
		y.Instrs = slices.Clone(x.Instrs)
		if !code.Same(x, y) || !code.Same(y, x) {
			t.Fatalf("%v and itself", x)
		}
		for _, how := range []func(*api.Code){
			func(c *api.Code) { c.Stage = 3 - c.Stage },
			func(c *api.Code) { c.Stage += 1 << 32 },
			func(c *api.Code) { c.Regs++ },
			func(c *api.Code) { c.Regs += 1 << 32 },
			func(c *api.Code) { c.Attribs++ },
			func(c *api.Code) { c.Uniforms-- },
			func(c *api.Code) { c.Varyings = -1 },
			func(c *api.Code) { c.Instrs = append(slices.Clone(c.Instrs), api.Instr{}) },
			func(c *api.Code) { c.Regs, c.Uniforms = c.Uniforms+100, c.Regs+100 },
		} {
			z := x
			how(&z)
			wantOther(t, x, z)
		}
		for k := range x.Instrs {
			z := x
			z.Instrs = slices.Delete(slices.Clone(x.Instrs), k, k+1)
			wantOther(t, x, z)
			for f := range 16 {
				z.Instrs = slices.Clone(x.Instrs)
				i := &z.Instrs[k]
				if f < 11 {
					*fields(i)[f] += 1 << c.below(40)
				} else if f < 15 {
					i.Imm[f-11] ^= 1 << c.below(31)
				} else {
					i.Op++
				}
				wantOther(t, x, z)
			}
		}
	}
	if !code.Same(api.Code{}, api.Code{Instrs: []api.Instr{}}) || !code.Same(api.Code{Instrs: []api.Instr{}}, api.Code{}) {
		t.Error("no instructions are no instructions")
	}
	bad := api.Code{Stage: -4, Regs: -1, Instrs: []api.Instr{{Op: 99, A: -7}}}
	if !code.Same(bad, bad) || code.Same(bad, api.Code{}) {
		t.Error("codes that may not be")
	}
	swapped := []api.Instr{jump(1), zero(2)}
	wantOther(t, bare(1, 1, swapped...), bare(1, 1, swapped[1], swapped[0]))
}

// wantOther asks whether two codes are not the same.
func wantOther(t *testing.T, x, y api.Code) {
	t.Helper()
	if code.Same(x, y) || code.Same(y, x) {
		t.Errorf("%v and %v", x, y)
	}
}

// R3: lists that are handed in are not changed, nor the room behind their ends; those that are answered are new.
func TestNothingIsShared(t *testing.T) {
	mark := api.Instr{Op: 99}
	l := []api.Instr{{Op: api.OpConst, Dst: 1}, {Op: api.OpPut, N: 1}, jump(3), mark, mark}
	was := slices.Clone(l)
	x := bare(vertex, 2, l[:3]...)
	x.Instrs = l[:3]
	code.Check(x)
	code.Reach(x)
	code.Same(x, x)
	b, _ := code.Encode(x)
	room := append(slices.Clone(b), 1, 2, 3)
	kept := slices.Clone(room)
	d, err := code.Decode(room[:len(b)])
	if !slices.Equal(l, was) || !bytes.Equal(room, kept) || err != api.OK {
		t.Error("what was handed in was changed")
	}
	d.Instrs[0].Dst = 7
	for k := range b {
		b[k] = 9
	}
	again, _ := code.Encode(x)
	if e, err := code.Decode(room[:len(b)]); err != api.OK || !equal(e, x) || !bytes.Equal(again, room[:len(b)]) || !slices.Equal(l, was) {
		t.Error("what was answered is kept")
	}
}
