package fix

import (
	"strconv"
	"strings"

	"paintbox/api"
)

// maxText is how many bytes a number's text has at most.
const maxText = 40

// textScale is 10^5: a text that is written has at most five digits behind the point.
const textScale = 100_000

// partScale is 10^17: what lies halfway between two raws is a multiple of 2^-17 and has at most 17 digits behind the point, so whether a text reaches it shows in the first 17, and the digits behind those change nothing.
const partScale = 100_000_000_000_000_000

// Text answers x in digits, with up to five behind the point.
func Text(x api.Fix) string {
	m := magnitude(x)
	text := strconv.FormatInt(m>>pointBits, 10) + partText(m&(1<<pointBits-1))
	if x < 0 {
		return "-" + text
	}
	return text
}

// partText answers the point and the digits behind it, or nothing where they would all be noughts.
func partText(part int64) string {
	f := nearest(part*textScale, 1<<pointBits)
	if f == 0 {
		return ""
	}
	// The scale is added so that the noughts ahead are written, and its own 1 is cut off.
	digits := strconv.FormatInt(textScale+f, 10)[1:]
	return "." + strings.TrimRight(digits, "0")
}

// Parse answers the number that is nearest to what the text says.
func Parse(s string) (api.Fix, api.Errno) {
	if len(s) > maxText {
		return 0, api.ErrLong
	}
	d := decimal{unit: partScale}
	if !d.read(s) {
		return 0, api.ErrNumber
	}
	return d.number(), api.OK
}

// decimal is what was read of a number's text: its sign, the whole part, and the part behind the point in parts of partScale; unit is what the digit read last was worth there.
type decimal struct {
	minus, digits, point bool
	whole, part, unit    int64
}

// read goes through the text, and tells whether it is a number's.
func (d *decimal) read(s string) bool {
	good := true
runes:
	for i, c := range s {
		switch {
		case c == '-' && i == 0:
			d.minus = true
		case c == '.' && !d.point:
			d.point = true
		case '0' <= c && c <= '9':
			d.digit(int64(c - '0'))
		default:
			good = false
			break runes
		}
	}
	return good && d.digits
}

// digit takes one more digit. The whole part is clamped to what is too great for a number anyway, for forty digits would pass an int64.
func (d *decimal) digit(n int64) {
	d.digits = true
	if !d.point {
		d.whole = within(10*d.whole+n, 0, 1<<pointBits)
		return
	}
	d.unit /= 10
	d.part += n * d.unit
}

// number rounds the magnitude ahead of setting the sign, so that halves go away from 0.
func (d *decimal) number() api.Fix {
	m := d.whole<<pointBits + nearest(d.part, partScale>>pointBits)
	if d.minus {
		m = -m
	}
	return Raw(m)
}
