package fetch

import (
	"paintbox/api"
	"paintbox/fix"
	"paintbox/octet"
)

// numbers is how the numbers of a kind are: their bytes, the least and the greatest of them, and how the next one is read.
type numbers struct {
	width       int
	least, most int64
	raw         bool // whether a number is a raw itself
	next        func(r *octet.Reader) int64
}

// numbersOf answers the numbers of a kind; false, if there is no such kind.
func numbersOf(kind int) (numbers, bool) {
	switch kind {
	case api.KindByte:
		return numbers{width: 1, least: -1 << 7, most: 1<<7 - 1, next: func(r *octet.Reader) int64 { return int64(r.I8()) }}, true
	case api.KindUByte:
		return numbers{width: 1, most: 1<<8 - 1, next: func(r *octet.Reader) int64 { return int64(r.U8()) }}, true
	case api.KindShort:
		return numbers{width: 2, least: -1 << 15, most: 1<<15 - 1, next: func(r *octet.Reader) int64 { return int64(r.I16()) }}, true
	case api.KindUShort:
		return numbers{width: 2, most: 1<<16 - 1, next: func(r *octet.Reader) int64 { return int64(r.U16()) }}, true
	case api.KindFixed:
		return numbers{width: 4, least: -1 << 31, most: 1<<31 - 1, raw: true, next: func(r *octet.Reader) int64 { return int64(r.I32()) }}, true
	}
	return numbers{}, false
}

// number answers what n of the kind stands for. The quotient of two raws is the nearest raw, as a normalized number must be; only the least number of a kind lies below -One.
func (s numbers) number(normalized bool, n int64) api.Fix {
	if s.raw {
		return fix.Raw(n)
	}
	if !normalized {
		return fix.Of(int(n))
	}
	return fix.Max(fix.Div(fix.Raw(n), fix.Raw(s.most)), -api.One)
}

// stretch answers a Reader of n bytes from a place on, or of those of them that there are: what it can't read is then told by its error.
func stretch(b []byte, at, n int) *octet.Reader {
	from := min(at, len(b))
	return octet.Read(b[from:min(at+n, len(b))])
}

// indices answers count numbers from a place on; fewer, if the bytes end ahead of that.
func (s numbers) indices(b []byte, at, count int) []int {
	r := stretch(b, at, count*s.width)
	var l []int
	for range count {
		n := s.next(r)
		if r.Err() != api.OK {
			break
		}
		l = append(l, int(n))
	}
	return l
}
