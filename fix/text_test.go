package fix_test

import (
	"fmt"
	"strings"
	"testing"

	"paintbox/api"
	"paintbox/fix"
)

func wantParse(t *testing.T, s string, want api.Fix) {
	t.Helper()
	if got, e := fix.Parse(s); got != want || e != api.OK {
		t.Errorf("Parse(%q): got raw %d and error %d, want raw %d", s, got, e, want)
	}
}

func wantRefused(t *testing.T, s string, want api.Errno) {
	t.Helper()
	if got, e := fix.Parse(s); got != 0 || e != want {
		t.Errorf("Parse(%q): got raw %d and error %d, want 0 and %d", s, got, e, want)
	}
}

// P2.4: the chapter's examples, both ends, noughts ahead and at the end, halves on both sides of 0.
func TestText(t *testing.T) {
	for _, c := range []struct {
		x    api.Fix
		want string
	}{
		{98304, "1.5"}, {-98304, "-1.5"}, {-1, "-0.00002"}, {1, "0.00002"}, {0, "0"}, {least, "-32768"},
		{least + 1, "-32767.99998"}, {most, "32767.99998"}, {one, "1"}, {-one, "-1"}, {10 * one, "10"}, {32000 * one, "32000"},
		{65535, "0.99998"}, {6554, "0.10001"}, {655, "0.00999"}, {16384, "0.25"}, {100*one + 32768, "100.5"},
		{1024, "0.01563"}, {-1024, "-0.01563"}, {3072, "0.04688"}, {-3072, "-0.04688"}, {2, "0.00003"}, {3, "0.00005"},
		{32768, "0.5"}, {-32768, "-0.5"}, {32769, "0.50002"},
	} {
		if got := fix.Text(c.x); got != c.want {
			t.Errorf("Text of raw %d: got %s, want %s", c.x, got, c.want)
		}
	}
}

// textOf writes the text by the chapter's rule, out of five digits that are always written first.
func textOf(x api.Fix) string {
	m, sign := int64(x), ""
	if x < 0 {
		m, sign = -m, "-"
	}
	f := (m%65536*200_000 + 65536) / 131072
	s := fmt.Sprintf("%s%d.%05d", sign, m/65536, f)
	return strings.TrimSuffix(strings.TrimRight(s, "0"), ".")
}

// P2.4, P2.5: of each part behind the point, with several whole parts: the text by the rule, and Parse of it is the number.
func TestTextAndBack(t *testing.T) {
	for _, whole := range []int{-32768, -32767, -20, -1, 0, 1, 10, 32767} {
		for part := range 65536 {
			x := fix.Add(fix.Of(whole), api.Fix(part))
			s := fix.Text(x)
			if s != textOf(x) {
				t.Fatalf("Text of raw %d: got %s, want %s", x, s, textOf(x))
			}
			if back, e := fix.Parse(s); back != x || e != api.OK {
				t.Fatalf("Parse of Text of raw %d (%s): raw %d, error %d", x, s, back, e)
			}
		}
	}
	for _, x := range some(5000) {
		if back, e := fix.Parse(fix.Text(x)); back != x || e != api.OK {
			t.Fatalf("Parse of Text of raw %d: raw %d, error %d", x, back, e)
		}
	}
}

// P2.4: numbers' texts: with digits on one side of the point or on both, with noughts, with a minus, and beyond both ends.
func TestParse(t *testing.T) {
	for _, c := range []struct {
		s    string
		want api.Fix
	}{
		{"0", 0}, {"-0", 0}, {"-0.0", 0}, {"1", one}, {"-1", -one}, {"1.5", 98304}, {"-1.5", -98304},
		{".5", 32768}, {"-.5", -32768}, {"1.", one}, {"-1.", -one}, {".0", 0}, {"0.", 0}, {"-.0", 0},
		{"007", 7 * one}, {"-007.250", -7*one - 16384}, {"0.25000", 16384}, {"-0.00002", -1}, {"9876.0", 9876 * one},
		{"32767", 32767 * one}, {"32768", most}, {"40000", most}, {"65536", most}, {"65537", most}, {"131072", most},
		{"-32768", least}, {"-32769", least}, {"-40000", least}, {"-65536", least}, {"-131072.5", least},
		{"32767.5", 32767*one + 32768}, {"32767.99998", most}, {"32767.99999999", most}, {"-32768.00001", least},
		{"4294967296", most}, {"-4294967297", least}, {"18446744073709551616", most}, {"-18446744073709551617", least},
	} {
		wantParse(t, c.s, c.want)
	}
}

// P2.4: halves go away from 0; a text that is short of one by its last digit, however far behind, does not.
func TestParseHalves(t *testing.T) {
	for _, c := range []struct {
		s    string
		want api.Fix
	}{
		{"0.00000762939453125", 1}, {"0.00000762939453124", 0}, {"0.000007629394531249", 0},
		{"0.0000076293945312499999999999999999999", 0}, {"0.0000076293945312500000000000000000001", 1},
		{"0.00000762939453126", 1}, {"0.00000762", 0}, {"0.00000763", 1},
		{"0.00002288818359375", 2}, {"0.00002288818359374", 1}, {"0.000022888183593749999999999", 1},
		{"1.00000762939453125", one + 1}, {"1.0000076293945312499", one}, {"0.99999237060546875", one},
		{"0.999992370605468749", one - 1}, {"0.9999999999999999999999999999999999999", one},
		{"32766.99999237060546875", 32767 * one}, {"32767.99999237060546875", most}, {"32767.99997711181640625", most},
		{"32767.999977111816406249", most - 1}, {"32767.99999237060546874", most},
	} {
		wantParse(t, c.s, c.want)
		wantParse(t, "-"+c.s, mirrored(c.s, c.want))
	}
}

// mirrored is what the text with a minus says: Least has no number across from it, so that a half reaches it that saturates above.
func mirrored(s string, x api.Fix) api.Fix {
	if s == "32767.99999237060546875" {
		return least
	}
	return -x
}

// slowly answers the raw out of a text that is a number's and not too great, digit by digit from its end: each step divides by 10 and rounds down, which loses nothing of the last one's whole halves.
func slowly(s string) api.Fix {
	s, minus := strings.CutPrefix(s, "-")
	whole, part, _ := strings.Cut(s, ".")
	var halves int64
	for i := len(part) - 1; i >= 0; i-- {
		halves = (int64(part[i]-'0')<<17 + halves) / 10
	}
	var n int64
	for i := range len(whole) {
		n = n*10 + int64(whole[i]-'0')
	}
	raw := (n<<17 + halves + 1) / 2
	if minus {
		raw = -raw
	}
	return saturated(raw)
}

// P2.4: texts with many digits, about each half of a few and with any, against the slow way.
func TestParseDigits(t *testing.T) {
	const fives17 = 762939453125
	for _, half := range []int64{1, 2, 3, 4, 5, 65535, 65536, 65537, 98303, 131069, 131070, 131071} {
		for _, off := range []int64{-2, -1, 0, 1, 2} {
			for _, tail := range []string{"", "0", "9", "000000000000000001", "9999999999999999"} {
				s := fmt.Sprintf("12.%017d%s", half*fives17+off, tail)
				wantParse(t, s, slowly(s))
				wantParse(t, "-"+s, slowly("-"+s))
			}
		}
	}
	state := uint64(7)
	for n := range 20000 {
		digits := ""
		for len(digits) < 34 {
			state = state*6364136223846793005 + 1442695040888963407
			digits += fmt.Sprint(state >> 40)
		}
		s := fmt.Sprint(n*7%40000) + "." + digits[:n%34]
		wantParse(t, s, slowly(s))
	}
}

// P2.4: 40 bytes are taken; 41 are too many, whether or not they are a number's.
func TestParseLong(t *testing.T) {
	wantParse(t, strings.Repeat("9", 40), most)
	wantParse(t, "-"+strings.Repeat("9", 39), least)
	wantParse(t, strings.Repeat("0", 40), 0)
	wantParse(t, strings.Repeat("0", 39)+"1", one)
	wantParse(t, strings.Repeat("0", 38)+".5", 32768)
	wantParse(t, "."+strings.Repeat("9", 39), one)
	wantParse(t, strings.Repeat("1", 39)+".", most)
	wantRefused(t, strings.Repeat("x", 40), api.ErrNumber)
	wantRefused(t, strings.Repeat("é", 20), api.ErrNumber)
	wantRefused(t, strings.Repeat("1", 39)+"x", api.ErrNumber)
	wantRefused(t, strings.Repeat("1", 41), api.ErrLong)
	wantRefused(t, strings.Repeat("0", 41), api.ErrLong)
	wantRefused(t, "-"+strings.Repeat("0", 40), api.ErrLong)
	wantRefused(t, "."+strings.Repeat("0", 40), api.ErrLong)
	wantRefused(t, strings.Repeat("x", 41), api.ErrLong)
	wantRefused(t, strings.Repeat("é", 21), api.ErrLong)
	wantRefused(t, strings.Repeat(" ", 1000), api.ErrLong)
}

// P2.4: what is no number's text.
func TestParseWrong(t *testing.T) {
	for _, s := range []string{
		"", "-", ".", "-.", "+1", "+", "--1", "1-", "-1-", "1-1", ".-5", "1.-5", "-.-", "..", "1..", ".1.", "1.2.3",
		" 1", "1 ", "1 2", "\t1", "1\n", "1e3", "1E3", "0x10", "1_0", "1,5", "1.5f", "a", "Inf", "NaN", "/", ":", "/1", "1:",
		"1\x00", "\x00", "\xff", "1\xff", "\xb1", "١", "１", "−1", "1．5", "½", "-é",
	} {
		wantRefused(t, s, api.ErrNumber)
	}
}
