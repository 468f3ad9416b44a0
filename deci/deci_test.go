package deci

import (
	"math"
	"math/big"
	"math/rand"
	"regexp"
	"strings"
	"testing"
)

const million = 1000000

// edge is the smallest number that is not Ok.
const edge = int64(million) * million

// numbers are numbers around every power of ten, with zeros in many places, and around the limits.
func numbers() []int64 {
	list := []int64{0, edge - 1, edge, edge + 1, math.MaxInt64, math.MaxInt64 - 1, math.MaxInt64 / 10}
	for power := int64(1); power < edge*1000; power *= 10 {
		for digit := int64(1); digit <= 9; digit++ {
			list = append(list, digit*power-1, digit*power, digit*power+1, digit*power+million, digit*power+1020300)
		}
	}
	for _, n := range list[:len(list):len(list)] {
		list = append(list, -n)
	}
	return append(list, math.MinInt64, math.MinInt64+1)
}

// 2.1: Ok holds strictly between -10^12 and 10^12.
func TestOk(t *testing.T) {
	cases := []struct {
		n    int64
		want bool
	}{
		{0, true}, {1, true}, {-1, true}, {million, true},
		{999999999999, true}, {1000000000000, false}, {1000000000001, false},
		{-999999999999, true}, {-1000000000000, false}, {-1000000000001, false},
		{math.MaxInt64, false}, {math.MinInt64, false}, {math.MinInt64 + 1, false},
	}
	for _, c := range cases {
		if got := Ok(c.n); got != c.want {
			t.Errorf("Ok(%d) = %v", c.n, got)
		}
	}
}

// 2.1: what Parse accepts.
func TestParseAccepts(t *testing.T) {
	cases := []struct {
		s    string
		want int64
	}{
		{"0", 0}, {"-0", 0}, {"+0", 0}, {"0.0", 0}, {"-.0", 0}, {"-0.000000", 0},
		{"1", million}, {"+1", million}, {"-1", -million}, {"9", 9 * million}, {"10", 10 * million},
		{"-.5", -500000}, {"+.5", 500000}, {".5", 500000}, {"0.5", 500000},
		{"5.", 5 * million}, {"-5.", -5 * million}, {"+5.", 5 * million},
		{"1.2", 1200000}, {"1.200", 1200000}, {"1.02", 1020000}, {"1.234567", 1234567},
		{".1", 100000}, {".01", 10000}, {".001", 1000}, {".0001", 100}, {".00001", 10}, {".000001", 1}, {"-.000001", -1},
		{"000001", million}, {"000000", 0}, {"000000.000000", 0}, {"007", 7 * million},
		{"123456", 123456 * million}, {"123456.", 123456 * million}, {"123456.789012", 123456789012},
		{"999999", 999999 * million}, {"999999.999999", 999999999999}, {"-999999.999999", -999999999999}, {"+999999.999999", 999999999999},
	}
	for _, c := range cases {
		if n, ok := Parse(c.s); n != c.want || !ok {
			t.Errorf("Parse(%q) = %d, %v, want %d", c.s, n, ok, c.want)
		}
	}
}

// 2.1: what Parse does not accept, with a number of zero beside the false.
func TestParseRejects(t *testing.T) {
	cases := []string{
		"", "+", "-", ".", "+.", "-.", "..", "++", "--", "+-", "-+",
		"1234567", "0000001", "0000000", "-1234567", "+0000000.5", "1234567.", "1234567.1",
		"1.1234567", "1.0000000", ".0000000", ".1234567", "-.1234567", "123456.1234567", "1234567.1234567",
		"1.2.3", "1..2", "1.2.", ".1.", "..1", ".+", ".-",
		"--1", "+-1", "-+1", "++1", "1-", "1+", "1-2", "1.+2", "1.-2", "-.+5", ".-5",
		"1,2", "1e3", "1E3", "0x1", "1_0", "a", "1a", "a1", "1.a", ".a", "-a", "NaN", "Inf", "-Inf",
		" ", " 1", "1 ", "- 1", "1 .5", "\t1", "1\n", "1.5\n", "\r", "\x001", "1\x00", "-\x00",
		"\xff", "1\xff", "1.\xff", "\xb1", "1.\xb1", "/", ":", "1/", "1:", ".5/", ".5:",
		"٣", "1٣", "1.٣", "\uff11", "\u22121", "½", "1\u00b75",
		strings.Repeat("0", 100000), strings.Repeat("-", 100000), strings.Repeat(".", 100000),
		"1." + strings.Repeat("0", 100000), strings.Repeat("1.", 50000),
	}
	for _, s := range cases {
		if n, ok := Parse(s); n != 0 || ok {
			t.Errorf("Parse(%.20q) = %d, %v", s, n, ok)
		}
	}
}

// form is the sentence of 2.1 about Parse, without the digit that there must be.
var form = regexp.MustCompile(`\A[+-]?[0-9]{0,6}(\.[0-9]{0,6})?\z`)

// expected reads a string by another way than Parse does.
func expected(s string) (int64, bool) {
	if !form.MatchString(s) || !strings.ContainsAny(s, "0123456789") {
		return 0, false
	}
	value, _ := new(big.Rat).SetString(strings.TrimSuffix(s, "."))
	value.Mul(value, big.NewRat(million, 1))
	return value.Num().Int64(), true
}

// 2.1: all short strings of bytes that mean something, and some beside them.
func TestParseShortStrings(t *testing.T) {
	const bytes = "+-.059/:a"
	list := []string{""}
	for length := 0; length <= 5; length++ {
		var longer []string
		for _, s := range list {
			wantN, want := expected(s)
			if n, ok := Parse(s); n != wantN || ok != want {
				t.Fatalf("Parse(%q) = %d, %v, want %d, %v", s, n, ok, wantN, want)
			}
			for i := range bytes {
				longer = append(longer, s+bytes[i:i+1])
			}
		}
		list = longer
	}
}

// 2.1: signs, points and digits in every number up to eight on either side.
func TestParseLengths(t *testing.T) {
	random := rand.New(rand.NewSource(2))
	for _, sign := range []string{"", "+", "-"} {
		for whole := 0; whole <= 8; whole++ {
			for decimals := -1; decimals <= 8; decimals++ {
				s := sign + digits(random, whole)
				if decimals >= 0 {
					s += "." + digits(random, decimals)
				}
				wantN, want := expected(s)
				if n, ok := Parse(s); n != wantN || ok != want {
					t.Errorf("Parse(%q) = %d, %v, want %d, %v", s, n, ok, wantN, want)
				}
			}
		}
	}
}

func digits(random *rand.Rand, count int) string {
	b := make([]byte, count)
	for i := range b {
		b[i] = byte('0' + random.Intn(10))
	}
	return string(b)
}

// 2.1: no byte but the ten digits counts as a digit.
func TestParseBytes(t *testing.T) {
	for b := 0; b < 256; b++ {
		digit := '0' <= b && b <= '9'
		for _, s := range []string{"1" + string([]byte{byte(b)}) + "1", "1.1" + string([]byte{byte(b)})} {
			want := digit || b == '.' && s[1] == '.' && strings.Count(s, ".") == 1
			if _, ok := Parse(s); ok != want {
				t.Errorf("Parse(%q) = %v", s, ok)
			}
		}
	}
}

// 2.1: numbers as texts, and no text where Ok is false.
func TestText(t *testing.T) {
	cases := []struct {
		n    int64
		want string
	}{
		{0, "0"}, {1, "0.000001"}, {-1, "-0.000001"}, {10, "0.00001"}, {100000, "0.1"}, {-500000, "-0.5"}, {999999, "0.999999"},
		{million, "1"}, {-million, "-1"}, {million + 1, "1.000001"}, {1020300, "1.0203"}, {-1500000, "-1.5"}, {1200000, "1.2"},
		{10 * million, "10"}, {100 * million, "100"}, {100000 * million, "100000"}, {-100000100000, "-100000.1"}, {123456789012, "123456.789012"},
		{999999 * million, "999999"}, {999999999999, "999999.999999"}, {-999999999999, "-999999.999999"},
		{edge, ""}, {-edge, ""}, {edge + 1, ""}, {-edge - 1, ""}, {math.MaxInt64, ""}, {math.MinInt64, ""},
	}
	for _, c := range cases {
		if got := Text(c.n); got != c.want {
			t.Errorf("Text(%d) = %q, want %q", c.n, got, c.want)
		}
	}
}

// shortest is the form that 2.1 gives to a text.
var shortest = regexp.MustCompile(`\A-?(0|[1-9][0-9]{0,5})(\.[0-9]{0,5}[1-9])?\z`)

// 2.1 and 2.2: the form of every text, a sign only for negative numbers, and the same number when it is read again.
func TestTextIsReadAgain(t *testing.T) {
	list := numbers()
	random := rand.New(rand.NewSource(22))
	for i := 0; i < 200000; i++ {
		list = append(list, (random.Int63n(2*edge)-edge)/pow10(i%12))
	}
	for n := int64(-2000000); n <= 2000000; n += 7 {
		list = append(list, n)
	}
	for _, n := range list {
		s := Text(n)
		if !Ok(n) {
			if s != "" {
				t.Fatalf("Text(%d) = %q, though it is not Ok", n, s)
			}
			continue
		}
		if !shortest.MatchString(s) || (n < 0) != (s[0] == '-') {
			t.Fatalf("Text(%d) = %q", n, s)
		}
		if back, ok := Parse(s); back != n || !ok {
			t.Fatalf("Parse(Text(%d)) = %d, %v", n, back, ok)
		}
	}
}

func pow10(power int) int64 {
	n := int64(1)
	for ; power > 0; power-- {
		n *= 10
	}
	return n
}

// 2.1 and W4: what Parse accepts is Ok, and keeps its value when it is written and read again.
func TestParseIsWrittenAgain(t *testing.T) {
	random := rand.New(rand.NewSource(24))
	for i := 0; i < 100000; i++ {
		s := []string{"", "+", "-"}[random.Intn(3)] + digits(random, random.Intn(7)) + "." + digits(random, random.Intn(7))
		n, ok := Parse(s)
		if !ok {
			continue
		}
		if back, again := Parse(Text(n)); !Ok(n) || back != n || !again {
			t.Fatalf("Parse(%q) = %d, written %q, read again %d, %v", s, n, Text(n), back, again)
		}
	}
}

// 2.3: no number and no bytes make a call panic.
func TestNoPanic(t *testing.T) {
	random := rand.New(rand.NewSource(23))
	for i := 0; i < 200000; i++ {
		b := make([]byte, random.Intn(16))
		for k := range b {
			b[k] = byte(random.Intn(256))
			if random.Intn(4) > 0 {
				b[k] = "+-.0123456789"[random.Intn(13)]
			}
		}
		wantN, want := expected(string(b))
		if n, ok := Parse(string(b)); n != wantN || ok != want {
			t.Fatalf("Parse(%q) = %d, %v, want %d, %v", b, n, ok, wantN, want)
		}
		n := int64(random.Uint64()) >> random.Intn(64)
		if s := Text(n); (s != "") != Ok(n) {
			t.Fatalf("Text(%d) = %q", n, s)
		}
	}
}
