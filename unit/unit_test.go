package unit

import (
	"math"
	"math/big"
	"math/rand"
	"regexp"
	"strings"
	"testing"

	"heliograph/api"
	"heliograph/deci"
)

const far = int64(api.Far)

// formats are all formats for which Ok is true.
func formats() []api.Format {
	var list []api.Format
	for unit := api.MM; unit <= api.Inch; unit++ {
		for whole := 0; whole <= 6; whole++ {
			for decimals := 0; decimals <= 6; decimals++ {
				if whole+decimals > 0 {
					list = append(list, api.Format{Unit: unit, Int: whole, Dec: decimals}, api.Format{Unit: unit, Int: whole, Dec: decimals, Trail: true})
				}
			}
		}
	}
	return list
}

// odd are formats for which Ok is false.
func odd() []api.Format {
	var list []api.Format
	for _, trail := range []bool{false, true} {
		for _, unit := range []int{0, 3, -1, -2, 4, 257, 1 << 32, 1<<32 + 1, math.MaxInt, math.MinInt} {
			list = append(list, api.Format{Unit: unit, Int: 2, Dec: 4, Trail: trail})
		}
		for _, n := range []int{-1, -2, -6, 7, 8, 12, 256, 257, 1 << 32, 1<<32 + 1, math.MaxInt, math.MinInt} {
			list = append(list, api.Format{Unit: api.MM, Int: n, Dec: 4, Trail: trail}, api.Format{Unit: api.Inch, Int: 2, Dec: n, Trail: trail})
			list = append(list, api.Format{Unit: api.Inch, Int: n, Dec: 0, Trail: trail}, api.Format{Unit: api.MM, Int: 0, Dec: n, Trail: trail})
			list = append(list, api.Format{Unit: api.MM, Int: n, Dec: n, Trail: trail}, api.Format{Unit: api.MM, Int: n, Dec: 1 - n, Trail: trail})
		}
		list = append(list, api.Format{Unit: api.MM, Trail: trail}, api.Format{Unit: api.Inch, Trail: trail})
	}
	return list
}

// 3.1: millionths of both units as grains, and what is no unit or too far away.
func TestGrain(t *testing.T) {
	cases := []struct {
		n    int64
		u    int
		want int64
		ok   bool
	}{
		{0, api.MM, 0, true}, {1, api.MM, 10, true}, {-1, api.MM, -10, true}, {1000000, api.MM, 10000000, true},
		{0, api.Inch, 0, true}, {1, api.Inch, 254, true}, {-1, api.Inch, -254, true}, {1000000, api.Inch, 254000000, true}, {-1000000, api.Inch, -254000000, true},
		{53687091, api.MM, 536870910, true}, {53687092, api.MM, 0, false}, {-53687091, api.MM, -536870910, true}, {-53687092, api.MM, 0, false},
		{2113664, api.Inch, 536870656, true}, {2113665, api.Inch, 536870910, true}, {2113666, api.Inch, 0, false},
		{-2113665, api.Inch, -536870910, true}, {-2113666, api.Inch, 0, false},
		{999999999999, api.MM, 0, false}, {1000000000000, api.MM, 0, false}, {-999999999999, api.Inch, 0, false}, {-1000000000000, api.Inch, 0, false},
		{math.MaxInt64, api.MM, 0, false}, {math.MinInt64, api.MM, 0, false}, {math.MaxInt64, api.Inch, 0, false}, {math.MinInt64, api.Inch, 0, false},
		// Multiplied without a check of deci.Ok, these wrap round to small numbers.
		{math.MinInt64 / 5, api.MM, 0, false}, {1844674407370955160, api.MM, 0, false}, {72624976668147842, api.Inch, 0, false}, {-72624976668147842, api.Inch, 0, false},
		{0, 0, 0, false}, {0, 3, 0, false}, {0, -1, 0, false}, {1, 0, 0, false}, {1, 3, 0, false}, {5, -2, 0, false}, {5, 10, 0, false}, {5, 254, 0, false},
		{5, 257, 0, false}, {5, 1<<32 + 1, 0, false}, {5, math.MaxInt, 0, false}, {5, math.MinInt, 0, false},
	}
	for _, c := range cases {
		if g, ok := Grain(c.n, c.u); g != c.want || ok != c.ok {
			t.Errorf("Grain(%d, %d) = %d, %v, want %d, %v", c.n, c.u, g, ok, c.want, c.ok)
		}
	}
}

// grainOf is the first sentence of 3.1, in big numbers.
func grainOf(n int64, u int) (int64, bool) {
	if !deci.Ok(n) || u != 1 && u != 2 {
		return 0, false
	}
	size := big.NewInt(10)
	if u == 2 {
		size = big.NewInt(254)
	}
	g := size.Mul(size, big.NewInt(n))
	if g.CmpAbs(big.NewInt(far)) > 0 {
		return 0, false
	}
	return g.Int64(), true
}

// 3.1: numbers of every size, in every unit and beside them.
func TestGrainOfAnyNumber(t *testing.T) {
	random := rand.New(rand.NewSource(31))
	for i := 0; i < 200000; i++ {
		n := int64(random.Uint64()) >> random.Intn(64)
		for u := -1; u <= 4; u++ {
			want, wantOk := grainOf(n, u)
			if g, ok := Grain(n, u); g != want || ok != wantOk {
				t.Fatalf("Grain(%d, %d) = %d, %v, want %d, %v", n, u, g, ok, want, wantOk)
			}
		}
	}
}

// 3.1: Ok at the limits of every field and beyond them.
func TestOk(t *testing.T) {
	for _, f := range formats() {
		if !Ok(f) {
			t.Errorf("Ok(%+v) = false", f)
		}
	}
	for _, f := range odd() {
		if Ok(f) {
			t.Errorf("Ok(%+v) = true", f)
		}
	}
	for unit := -2; unit <= 5; unit++ {
		for whole := -3; whole <= 9; whole++ {
			for decimals := -3; decimals <= 9; decimals++ {
				want := (unit == 1 || unit == 2) && whole >= 0 && whole <= 6 && decimals >= 0 && decimals <= 6 && (whole > 0 || decimals > 0)
				for _, trail := range []bool{false, true} {
					if f := (api.Format{Unit: unit, Int: whole, Dec: decimals, Trail: trail}); Ok(f) != want {
						t.Errorf("Ok(%+v) = %v", f, !want)
					}
				}
			}
		}
	}
}

// coordForm is what 3.2 says of a coordinate, without the number of digits.
var coordForm = regexp.MustCompile(`\A([+-]?)([0-9]+)\z`)

// coordOf is 3.2 about Coord, by another way than Coord's: the value of the digits as a fraction.
func coordOf(s string, f api.Format) (int64, bool) {
	form := coordForm.FindStringSubmatch(s)
	count := f.Int + f.Dec
	if form == nil || len(form[2]) > count {
		return 0, false
	}
	value, _ := new(big.Rat).SetString(form[1] + form[2])
	shift := 6 - f.Dec
	if f.Trail {
		shift += count - len(form[2])
	}
	value.Mul(value, new(big.Rat).SetInt(new(big.Int).Exp(big.NewInt(10), big.NewInt(int64(shift)), nil)))
	return grainOf(value.Num().Int64(), f.Unit)
}

func checkCoord(t *testing.T, s string, f api.Format) {
	t.Helper()
	want, wantOk := coordOf(s, f)
	if g, ok := Coord(s, f); g != want || ok != wantOk {
		t.Fatalf("Coord(%q, %+v) = %d, %v, want %d, %v", s, f, g, ok, want, wantOk)
	}
}

// 3.2: coordinates with leading zeros omitted and with trailing ones.
func TestCoord(t *testing.T) {
	lead, trail := api.Format{Unit: api.MM, Int: 2, Dec: 4}, api.Format{Unit: api.MM, Int: 2, Dec: 4, Trail: true}
	wholes, decimals := api.Format{Unit: api.Inch, Int: 6}, api.Format{Unit: api.Inch, Dec: 6}
	inch, wide := api.Format{Unit: api.Inch, Int: 1, Dec: 6}, api.Format{Unit: api.MM, Int: 6, Dec: 6}
	one := api.Format{Unit: api.MM, Int: 1, Trail: true}
	cases := []struct {
		f    api.Format
		s    string
		want int64
	}{
		{lead, "15", 15000}, {lead, "-15", -15000}, {lead, "+15", 15000}, {lead, "000015", 15000}, {lead, "-000015", -15000}, {lead, "150000", 150000000},
		{lead, "0", 0}, {lead, "-0", 0}, {lead, "+0", 0}, {lead, "000000", 0}, {lead, "-000000", 0},
		{trail, "15", 150000000}, {trail, "-15", -150000000}, {trail, "+015", 15000000}, {trail, "000015", 15000}, {trail, "1500", 150000000}, {trail, "-000001", -1000}, {trail, "1", 100000000},
		{trail, "0", 0}, {trail, "-0", 0}, {trail, "+000", 0}, {trail, "000000", 0},
		{lead, "536870", 536870000}, {trail, "53687", 536870000}, {lead, "-536870", -536870000}, {trail, "-53687", -536870000},
		{wholes, "2", 508000000}, {wholes, "-000002", -508000000}, {wholes, "+0", 0}, {decimals, "1", 254}, {decimals, "-100000", -25400000}, {decimals, "+999999", 253999746},
		{inch, "2113665", 536870910}, {inch, "-2113665", -536870910}, {wide, "53687091", 536870910}, {wide, "-000053687091", -536870910},
		{one, "5", 50000000}, {one, "9", 90000000}, {one, "-5", -50000000}, {one, "+0", 0},
	}
	for _, c := range cases {
		if g, ok := Coord(c.s, c.f); g != c.want || !ok {
			t.Errorf("Coord(%q, %+v) = %d, %v, want %d", c.s, c.f, g, ok, c.want)
		}
	}
	beyond := []struct {
		f api.Format
		s string
	}{
		{lead, "536871"}, {lead, "-536871"}, {trail, "-536871"}, {trail, "6"}, {trail, "-54"}, {lead, "999999"},
		{inch, "2113666"}, {inch, "-2113666"}, {wide, "53687092"}, {wide, "-53687092"}, {wide, "999999999999"}, {wholes, "3"}, {wholes, "-999999"},
		{lead, "0000015"}, {lead, "0000000"}, {trail, "1500000"}, {trail, "-0000000"}, {wholes, "0000001"}, {decimals, "1000000"}, {one, "05"}, {one, "-00"}, {inch, "00000001"}, {wide, "0000000000001"},
	}
	for _, c := range beyond {
		if g, ok := Coord(c.s, c.f); g != 0 || ok {
			t.Errorf("Coord(%q, %+v) = %d, %v", c.s, c.f, g, ok)
		}
	}
}

// 3.2: strings that are coordinates in no format, with 0 beside the false.
func TestCoordRejects(t *testing.T) {
	list := []string{
		"", "+", "-", "++", "--", "+-", "-+", "--1", "+-1", "-+1", "++1", "1-", "1+", "1-2", "-1-", "+1+",
		".", "1.", ".1", "1.5", "-.5", "0.0", "1,5", "1e1", "0x1", "1_0", "a", "1a", "a1", "-a",
		" ", " 1", "1 ", "- 1", "-1 ", "1 1", "\t1", "1\n", "1\r\n", "\x00", "1\x00", "\x001", "-\x00",
		"\xff", "1\xff", "\xb1", "/", ":", "1/", "1:", "/1", ":1", "٣", "1٣", "\uff11", "\u22121", "½",
		strings.Repeat("0", 13), "-" + strings.Repeat("0", 13), strings.Repeat("0", 100000), strings.Repeat("-", 100000), "+" + strings.Repeat("1", 100000),
	}
	for _, f := range formats() {
		for _, s := range list {
			if g, ok := Coord(s, f); g != 0 || ok {
				t.Errorf("Coord(%.20q, %+v) = %d, %v", s, f, g, ok)
			}
		}
	}
}

// 3.2: neither call answers anything where Ok is false.
func TestNothingWithoutFormat(t *testing.T) {
	for _, f := range odd() {
		for _, s := range []string{"", "0", "1", "-1", "+15", "1500", "000015", "-"} {
			if g, ok := Coord(s, f); g != 0 || ok {
				t.Errorf("Coord(%q, %+v) = %d, %v", s, f, g, ok)
			}
		}
		for _, g := range []int64{0, 10, 254, -2540, 25400000, far, math.MaxInt64, math.MinInt64} {
			if s, ok := Digits(g, f); s != "" || ok {
				t.Errorf("Digits(%d, %+v) = %q, %v", g, f, s, ok)
			}
		}
	}
}

// 3.2: all short strings of bytes that mean something, and some beside them, in every format.
func TestCoordShortStrings(t *testing.T) {
	const bytes = "+-059/:."
	list := []string{""}
	for length := 0; length <= 3; length++ {
		var longer []string
		for _, s := range list {
			for _, f := range formats() {
				checkCoord(t, s, f)
			}
			for i := range bytes {
				longer = append(longer, s+bytes[i:i+1])
			}
		}
		list = longer
	}
}

// 3.2: every number of digits up to two more than a format has, with every sign.
func TestCoordLengths(t *testing.T) {
	random := rand.New(rand.NewSource(32))
	for _, f := range formats() {
		for _, sign := range []string{"", "+", "-"} {
			for count := 0; count <= f.Int+f.Dec+2; count++ {
				checkCoord(t, sign+strings.Repeat("0", count), f)
				for i := 0; i < 4; i++ {
					checkCoord(t, sign+digits(random, count), f)
					checkCoord(t, sign+strings.Repeat("0", count/2)+digits(random, count-count/2), f)
				}
			}
		}
	}
}

func digits(random *rand.Rand, count int) string {
	b := make([]byte, count)
	for i := range b {
		b[i] = byte('0' + random.Intn(10))
	}
	return string(b)
}

// 3.2: no byte but the ten digits counts as a digit, and none but the two signs as a sign.
func TestCoordBytes(t *testing.T) {
	for _, f := range formats() {
		if f.Int+f.Dec < 3 {
			continue
		}
		for b := 0; b < 256; b++ {
			c := string([]byte{byte(b)})
			for _, s := range []string{c + "00", "0" + c + "0", "00" + c} {
				_, want := coordOf(s, f)
				if _, ok := Coord(s, f); ok != want {
					t.Errorf("Coord(%q, %+v) = %v", s, f, ok)
				}
			}
		}
	}
}

// 3.2: the shortest digits, and the grains that have none.
func TestDigits(t *testing.T) {
	lead, trail := api.Format{Unit: api.MM, Int: 2, Dec: 4}, api.Format{Unit: api.MM, Int: 2, Dec: 4, Trail: true}
	inch, short := api.Format{Unit: api.Inch, Int: 1, Dec: 6}, api.Format{Unit: api.MM, Int: 1, Dec: 2}
	inchTrail, wide := api.Format{Unit: api.Inch, Int: 2, Dec: 3, Trail: true}, api.Format{Unit: api.MM, Int: 6, Dec: 6, Trail: true}
	cases := []struct {
		f    api.Format
		g    int64
		want string
	}{
		{lead, 0, "0"}, {lead, 1000, "1"}, {lead, -1000, "-1"}, {lead, 15000, "15"}, {lead, 150000, "150"}, {lead, -530000000, "-530000"}, {lead, 536870000, "536870"},
		{trail, 0, "0"}, {trail, 1000, "000001"}, {trail, -1000, "-000001"}, {trail, 15000, "000015"}, {trail, 150000, "00015"}, {trail, 150000000, "15"}, {trail, -500000000, "-5"}, {trail, 10000000, "01"}, {trail, 101000, "000101"}, {trail, 536870000, "53687"},
		{inch, 0, "0"}, {inch, 254, "1"}, {inch, -254, "-1"}, {inch, 254000000, "1000000"}, {inch, 536870910, "2113665"}, {inch, -536870910, "-2113665"},
		{short, 99900000, "999"}, {short, -99900000, "-999"}, {short, 100000, "1"},
		{inchTrail, 254000000, "01"}, {inchTrail, -254000, "-00001"}, {inchTrail, 25400000, "001"}, {wide, 10, "000000000001"}, {wide, -536870910, "-000053687091"}, {wide, 100000000, "00001"},
		{api.Format{Unit: api.MM, Int: 1}, 50000000, "5"}, {api.Format{Unit: api.MM, Dec: 1, Trail: true}, -9000000, "-9"}, {api.Format{Unit: api.Inch, Int: 6}, 508000000, "2"}, {api.Format{Unit: api.Inch, Dec: 6}, 253999746, "999999"},
	}
	for _, c := range cases {
		if s, ok := Digits(c.g, c.f); s != c.want || !ok {
			t.Errorf("Digits(%d, %+v) = %q, %v, want %q", c.g, c.f, s, ok, c.want)
		}
	}
	none := []struct {
		f api.Format
		g int64
	}{
		{lead, 1}, {lead, -1}, {lead, 10}, {lead, 500}, {lead, 999}, {lead, 1001}, {lead, 15001}, {lead, -15010}, {trail, 15100}, {trail, -1},
		{inch, 1}, {inch, 10}, {inch, 127}, {inch, 253}, {inch, 255}, {inch, -253}, {inchTrail, 254}, {inchTrail, 25400}, {inchTrail, 1000},
		{short, 100000000}, {short, -100000000}, {api.Format{Unit: api.MM, Dec: 2}, 10000000}, {api.Format{Unit: api.Inch, Dec: 6}, 254000000}, {api.Format{Unit: api.Inch, Dec: 1, Trail: true}, -254000000}, {api.Format{Unit: api.Inch, Int: 6}, 25400000},
		{lead, 536871000}, {lead, -536871000}, {wide, far}, {wide, -far}, {wide, far + 1}, {wide, -far - 1}, {wide, 536870920}, {wide, -536870920}, {inch, 536871164}, {inch, -536871164}, {inch, 2286000000},
		{wide, math.MaxInt64}, {wide, math.MinInt64}, {inch, math.MaxInt64}, {inch, math.MinInt64}, {lead, 1000 << 40}, {lead, -1000 << 40}, {inch, -254 << 55}, {wide, -10 << 59},
	}
	for _, c := range none {
		if s, ok := Digits(c.g, c.f); s != "" || ok {
			t.Errorf("Digits(%d, %+v) = %q, %v", c.g, c.f, s, ok)
		}
	}
}

// 3.2: in formats with few digits, Digits finds the shortest of all strings for each grain, and something only where there is one.
func TestDigitsShortest(t *testing.T) {
	for _, f := range formats() {
		if f.Int+f.Dec > 3 {
			continue
		}
		shortest := shortestStrings(t, f)
		for g, want := range shortest {
			if s, ok := Digits(g, f); s != want || !ok {
				t.Fatalf("Digits(%d, %+v) = %q, %v, want %q", g, f, s, ok, want)
			}
			for _, beside := range []int64{g - 1, g + 1, g - 10, g + 10, g - 254, g + 254, 10 * g, g / 10, 2 * g, far - g, far + g} {
				want, wantOk := shortest[beside]
				if s, ok := Digits(beside, f); s != want || ok != wantOk {
					t.Fatalf("Digits(%d, %+v) = %q, %v, want %q, %v", beside, f, s, ok, want, wantOk)
				}
			}
		}
	}
}

// shortestStrings is the shortest coordinate for each number of grains, found by trying all coordinates of the format.
func shortestStrings(t *testing.T, f api.Format) map[int64]string {
	found := map[int64]string{}
	list := []string{""}
	for length := 1; length <= f.Int+f.Dec; length++ {
		var longer []string
		for _, s := range list {
			for digit := '0'; digit <= '9'; digit++ {
				longer = append(longer, s+string(digit))
			}
		}
		list = longer
		for _, s := range list {
			for _, sign := range []string{"", "+", "-"} {
				g, ok := coordOf(sign+s, f)
				if old, known := found[g]; ok && (!known || len(sign+s) < len(old)) {
					found[g] = sign + s
				} else if ok && len(sign+s) == len(old) && sign+s != old {
					t.Fatalf("%+v: %q and %q are equally short", f, sign+s, old)
				}
			}
		}
	}
	return found
}

// 3.2 and W4: what Digits writes is read as the same grains, and what Coord reads is written no longer than it was.
func TestRoundTrip(t *testing.T) {
	random := rand.New(rand.NewSource(34))
	for _, f := range formats() {
		for i := 0; i < 2000; i++ {
			s := []string{"", "+", "-"}[random.Intn(3)] + digits(random, 1+random.Intn(f.Int+f.Dec))
			if i%2 == 0 {
				s = strings.Repeat("0", min(f.Int, 5)) + digits(random, f.Dec)
			}
			g, ok := Coord(s, f)
			if !ok {
				continue
			}
			written, ok := Digits(g, f)
			if !ok || len(written) > len(s) {
				t.Fatalf("Digits(%d, %+v) = %q, %v, though %q denotes it", g, f, written, ok, s)
			}
			if back, ok := Coord(written, f); back != g || !ok {
				t.Fatalf("Coord(%q, %+v) = %d, %v, written for %d", written, f, back, ok, g)
			}
		}
	}
}

// 3.3 and W5: five inches are 127 millimetres, to the grain, as numbers and as coordinates.
func TestExact(t *testing.T) {
	for n := int64(-430000); n <= 430000; n++ {
		inch, ok := Grain(5*n, api.Inch)
		mm, also := Grain(127*n, api.MM)
		if inch != mm || ok != also || ok != (n >= -422733 && n <= 422733) {
			t.Fatalf("%d: %d, %v and %d, %v", n, inch, ok, mm, also)
		}
	}
	cases := []struct{ inch, mm string }{
		{"0", "0"}, {"1000000", "25400000"}, {"-1000000", "-25400000"}, {"5", "127"}, {"-5", "-127"}, {"500000", "12700000"}, {"100", "2540"}, {"2113665", "53687091"}, {"-2113665", "-53687091"},
	}
	for _, c := range cases {
		inch, ok := Coord(c.inch, api.Format{Unit: api.Inch, Int: 2, Dec: 6})
		mm, also := Coord(c.mm, api.Format{Unit: api.MM, Int: 2, Dec: 6})
		if inch != mm || !ok || !also {
			t.Errorf("%s inches: %d, %v; %s millimetres: %d, %v", c.inch, inch, ok, c.mm, mm, also)
		}
	}
}

// 3.3: the grains are evenly spaced, so that no length is rounded.
func TestEvenlySpaced(t *testing.T) {
	for u, size := range map[int]int64{api.MM: 10, api.Inch: 254} {
		for n := int64(-far / size); n <= far/size; n += 97 {
			if g, ok := Grain(n, u); g != n*size || !ok {
				t.Fatalf("Grain(%d, %d) = %d, %v", n, u, g, ok)
			}
		}
	}
}

// 3.4: no arguments make a call panic, and beside a false stands a zero value.
func TestNoPanic(t *testing.T) {
	random := rand.New(rand.NewSource(35))
	number := func() int64 { return int64(random.Uint64()) >> random.Intn(64) }
	for i := 0; i < 300000; i++ {
		f := api.Format{Unit: random.Intn(4), Int: random.Intn(10) - 1, Dec: random.Intn(10) - 1, Trail: i%2 == 0}
		if i%5 == 0 {
			f = api.Format{Unit: int(number()), Int: int(number()), Dec: int(number()), Trail: i%2 == 0}
		}
		b := make([]byte, random.Intn(15))
		for k := range b {
			b[k] = byte(random.Intn(256))
			if random.Intn(8) > 0 {
				b[k] = "+-0123456789"[random.Intn(12)]
			}
		}
		if Ok(f) {
			checkCoord(t, string(b), f)
		} else if g, ok := Coord(string(b), f); g != 0 || ok {
			t.Fatalf("Coord(%q, %+v) = %d, %v", b, f, g, ok)
		}
		g := number()
		if s, ok := Digits(g, f); !ok && s != "" || ok && !Ok(f) {
			t.Fatalf("Digits(%d, %+v) = %q, %v", g, f, s, ok)
		}
		if g, ok := Grain(number(), int(number())); !ok && g != 0 {
			t.Fatalf("Grain = %d, %v", g, ok)
		}
	}
}
