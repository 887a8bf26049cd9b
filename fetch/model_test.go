package fetch_test

import "paintbox/api"

// The chapter, read a second time, as plainly as it can be: numbers by their bytes' sum, places by their words.

// ends answers a kind's bytes, its least and its greatest number; no bytes, if there is no such kind.
func ends(kind int) (int, int64, int64) {
	return map[int]int{1: 1, 2: 1, 3: 2, 4: 2, 5: 4}[kind],
		map[int]int64{1: -128, 3: -32768, 5: -2147483648}[kind],
		map[int]int64{1: 127, 2: 255, 3: 32767, 4: 65535, 5: 2147483647}[kind]
}

// stands answers the raw of the number that n of a kind stands for.
func stands(kind int, normalized bool, n int64) int64 {
	_, _, most := ends(kind)
	switch {
	case kind == 5:
		return n
	case !normalized:
		return max(-1<<31, min(1<<31-1, n*65536))
	}
	near, sign := n*65536*2, int64(1)
	if n < 0 {
		near, sign = -near, -1
	}
	return max(-65536, sign*((near+most)/(2*most)))
}

// sum answers the number whose bytes these are, of a kind.
func sum(b []byte, kind int) int64 {
	n, all := int64(0), int64(1)
	for _, x := range b {
		n += all * int64(x)
		all *= 256
	}
	if _, least, most := ends(kind); n > most {
		n += 2 * least
	}
	return n
}

// maybe tells whether an array may be.
func maybe(a api.Array) bool {
	width, _, _ := ends(a.Kind)
	return width > 0 && a.Size >= 1 && a.Size <= 4 && a.Stride >= 0 && a.Stride <= 255 && a.Offset >= 0 && a.Offset <= 1<<18
}

// vertex answers vertex i of an array that may be; false, if it does not stand within the bytes.
func vertex(b []byte, a api.Array, i int) (api.Vec, bool) {
	width, _, _ := ends(a.Kind)
	step := a.Stride
	if step == 0 {
		step = a.Size * width
	}
	at := a.Offset + i*step
	if at+a.Size*width > len(b) {
		return api.Vec{}, false
	}
	v := api.Vec{0, 0, 0, 65536}
	for k := 0; k < a.Size; k++ {
		v[k] = api.Fix(stands(a.Kind, a.Normalized, sum(b[at+k*width:at+k*width+width], a.Kind)))
	}
	return v, true
}

// row answers what Row is to answer.
func row(b []byte, a api.Array, first, count int) ([]api.Vec, api.Errno) {
	if !maybe(a) || first < 0 || first > 65535 || count < 0 || count > 65535 {
		return nil, api.ErrArg
	}
	if count > 256 {
		return nil, api.ErrLong
	}
	var l []api.Vec
	for i := first; i < first+count; i++ {
		v, there := vertex(b, a, i)
		if !there {
			return nil, api.ErrShort
		}
		l = append(l, v)
	}
	return l, api.OK
}

// indices answers what Indices is to answer.
func indices(b []byte, kind, offset, count int) ([]int, api.Errno) {
	width, _, _ := ends(kind)
	if kind != 2 && kind != 4 || offset < 0 || count < 0 || offset > 1<<18 {
		return nil, api.ErrArg
	}
	if count > 256 {
		return nil, api.ErrLong
	}
	var l []int
	for ; count > 0; count-- {
		if offset+width > len(b) {
			return nil, api.ErrShort
		}
		l = append(l, int(sum(b[offset:offset+width], kind)))
		offset += width
	}
	return l, api.OK
}

// prims answers what Prims is to answer of a mode that there is: the places are gone through by hand, mode by mode.
func prims(mode int, l []int) []api.Prim {
	var out []api.Prim
	n := len(l)
	tell := func(v ...int) {
		p := api.Prim{N: len(v)}
		copy(p.V[:], v)
		out = append(out, p)
	}
	for k := 0; k < n; k++ {
		behind := n - 1 - k
		switch {
		case mode == 0:
			tell(l[k])
		case mode == 1 && k%2 == 0 && behind >= 1, (mode == 2 || mode == 3) && behind >= 1:
			tell(l[k], l[k+1])
		case mode == 2 && n >= 2:
			tell(l[k], l[0])
		case mode == 4 && k%3 == 0 && behind >= 2, mode == 5 && k%2 == 0 && behind >= 2:
			tell(l[k], l[k+1], l[k+2])
		case mode == 5 && behind >= 2:
			tell(l[k+1], l[k], l[k+2])
		case mode == 6 && k >= 1 && behind >= 1:
			tell(l[0], l[k], l[k+1])
		}
	}
	return out
}
