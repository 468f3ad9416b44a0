package wide

import (
	"math"
	"math/big"
	"math/bits"
	"math/rand"
	"testing"

	"heliograph/api"
)

const top = math.MaxUint64

// far is the greatest coordinate; a difference of two coordinates is at most twice as great.
const far = int64(api.Far)

func wideOf(hi, lo uint64) api.Wide { return api.Wide{Hi: hi, Lo: lo} }

func bigOf(w api.Wide) *big.Int {
	n := new(big.Int).SetUint64(w.Hi)
	return n.Lsh(n, 64).Or(n, new(big.Int).SetUint64(w.Lo))
}

func bigWord(n uint64) *big.Int { return new(big.Int).SetUint64(n) }

// words are numbers whose halves, sums and products lie at or beside the places where something is carried.
func words() []uint64 {
	list := []uint64{0, top, 0x5555555555555555, 0xAAAAAAAAAAAAAAAA, 0xFFFFFFFF00000000, 0xFFFFFFFE00000001}
	for shift := 0; shift < 64; shift++ {
		n := uint64(1) << shift
		list = append(list, n-1, n, n+1, -n)
	}
	return list
}

func wides() []api.Wide {
	short := []uint64{0, 1, 2, 1<<32 - 1, 1 << 32, 1<<63 - 1, 1 << 63, 1<<63 + 1, top - 1, top}
	var list []api.Wide
	for _, hi := range short {
		for _, lo := range short {
			list = append(list, wideOf(hi, lo))
		}
	}
	return list
}

// 1.1: the absolute value, also of the smallest int64.
func TestAbs(t *testing.T) {
	cases := []struct {
		v    int64
		want uint64
	}{
		{0, 0}, {1, 1}, {-1, 1}, {7, 7}, {-7, 7},
		{far, 1 << 29}, {-far, 1 << 29}, {1 << 32, 1 << 32}, {-1 << 32, 1 << 32},
		{math.MaxInt64, 1<<63 - 1}, {-math.MaxInt64, 1<<63 - 1}, {math.MinInt64, 1 << 63},
	}
	for _, c := range cases {
		if got := Abs(c.v); got != c.want {
			t.Errorf("Abs(%d) = %d, want %d", c.v, got, c.want)
		}
	}
}

// 1.1: products that are known.
func TestMulExamples(t *testing.T) {
	cases := []struct {
		a, b uint64
		want api.Wide
	}{
		{0, 0, wideOf(0, 0)}, {0, top, wideOf(0, 0)}, {1, top, wideOf(0, top)}, {3, 4, wideOf(0, 12)},
		{1 << 63, 2, wideOf(1, 0)}, {1 << 32, 1 << 32, wideOf(1, 0)},
		{1<<32 - 1, 1<<32 - 1, wideOf(0, 0xFFFFFFFE00000001)}, {1<<32 - 1, 1<<32 + 1, wideOf(0, top)},
		{top, 2, wideOf(1, top-1)}, {top, top, wideOf(top-1, 1)}, {1 << 63, 1 << 63, wideOf(1<<62, 0)},
	}
	for _, c := range cases {
		if got := Mul(c.a, c.b); got != c.want {
			t.Errorf("Mul(%d, %d) = %v, want %v", c.a, c.b, got, c.want)
		}
		if got := Mul(c.b, c.a); got != c.want {
			t.Errorf("Mul(%d, %d) = %v, want %v", c.b, c.a, got, c.want)
		}
	}
}

func checkMul(t *testing.T, a, b uint64) {
	t.Helper()
	got := Mul(a, b)
	want := new(big.Int).Mul(bigWord(a), bigWord(b))
	if bigOf(got).Cmp(want) != 0 {
		t.Fatalf("Mul(%d, %d) = %v, want %s", a, b, got, want)
	}
}

// 1.1, 1.2: every product is exact, wherever something is carried.
func TestMulExact(t *testing.T) {
	list := words()
	for _, a := range list {
		for _, b := range list {
			checkMul(t, a, b)
		}
	}
	source := rand.New(rand.NewSource(1))
	for range 100000 {
		checkMul(t, source.Uint64(), source.Uint64()>>source.Intn(64))
	}
}

// 1.1: the square, also of the smallest int64.
func TestSq(t *testing.T) {
	cases := []struct {
		v    int64
		want api.Wide
	}{
		{0, wideOf(0, 0)}, {1, wideOf(0, 1)}, {-1, wideOf(0, 1)}, {-7, wideOf(0, 49)},
		{1<<32 - 1, wideOf(0, 0xFFFFFFFE00000001)}, {1 << 32, wideOf(1, 0)}, {-1 << 32, wideOf(1, 0)},
		{1 << 40, wideOf(1<<16, 0)}, {math.MaxInt64, wideOf(1<<62-1, 1)}, {-math.MaxInt64, wideOf(1<<62-1, 1)},
		{math.MinInt64, wideOf(1<<62, 0)},
	}
	for _, c := range cases {
		if got := Sq(c.v); got != c.want {
			t.Errorf("Sq(%d) = %v, want %v", c.v, got, c.want)
		}
	}
	for _, n := range words() {
		v := int64(n)
		want := new(big.Int).Mul(big.NewInt(v), big.NewInt(v))
		if got := Sq(v); bigOf(got).Cmp(want) != 0 {
			t.Errorf("Sq(%d) = %v, want %s", v, got, want)
		}
	}
}

// 1.1: sums that are known, at and just below 2^128; beside a false the sum is the zero value.
func TestAddExamples(t *testing.T) {
	cases := []struct {
		a, b, want api.Wide
		ok         bool
	}{
		{wideOf(0, 0), wideOf(0, 0), wideOf(0, 0), true},
		{wideOf(3, 4), wideOf(5, 6), wideOf(8, 10), true},
		{wideOf(0, top), wideOf(0, 1), wideOf(1, 0), true},
		{wideOf(0, top), wideOf(0, top), wideOf(1, top-1), true},
		{wideOf(top, top), wideOf(0, 0), wideOf(top, top), true},
		{wideOf(top, top-1), wideOf(0, 1), wideOf(top, top), true},
		{wideOf(top-1, top), wideOf(0, 1), wideOf(top, 0), true},
		{wideOf(1<<63, 0), wideOf(1<<63-1, top), wideOf(top, top), true},
		{wideOf(top, top), wideOf(0, 1), wideOf(0, 0), false},
		{wideOf(top, 0), wideOf(1, 0), wideOf(0, 0), false},
		{wideOf(top, 5), wideOf(1, 6), wideOf(0, 0), false},
		{wideOf(1<<63, 0), wideOf(1<<63, 0), wideOf(0, 0), false},
		{wideOf(top, 1), wideOf(0, top), wideOf(0, 0), false},
		{wideOf(1<<63, 1), wideOf(1<<63-1, top), wideOf(0, 0), false},
		{wideOf(top, top), wideOf(top, top), wideOf(0, 0), false},
	}
	for _, c := range cases {
		if got, ok := Add(c.a, c.b); got != c.want || ok != c.ok {
			t.Errorf("Add(%v, %v) = %v, %v, want %v, %v", c.a, c.b, got, ok, c.want, c.ok)
		}
		if got, ok := Add(c.b, c.a); got != c.want || ok != c.ok {
			t.Errorf("Add(%v, %v) = %v, %v, want %v, %v", c.b, c.a, got, ok, c.want, c.ok)
		}
	}
}

func checkAdd(t *testing.T, a, b api.Wide) {
	t.Helper()
	sum := new(big.Int).Add(bigOf(a), bigOf(b))
	fits := sum.BitLen() <= 128
	if !fits {
		sum.SetInt64(0)
	}
	if got, ok := Add(a, b); ok != fits || bigOf(got).Cmp(sum) != 0 {
		t.Fatalf("Add(%v, %v) = %v, %v, want %s, %v", a, b, got, ok, sum, fits)
	}
}

// 1.1, 1.2: every sum is exact or refused, wherever something is carried.
func TestAddExact(t *testing.T) {
	list := wides()
	for _, a := range list {
		for _, b := range list {
			checkAdd(t, a, b)
		}
	}
	source := rand.New(rand.NewSource(2))
	for range 100000 {
		a := wideOf(source.Uint64(), source.Uint64())
		checkAdd(t, a, wideOf(source.Uint64()>>source.Intn(64), source.Uint64()))
	}
}

// 1.1: the order of numbers, where the high half weighs more than the low one.
func TestCmp(t *testing.T) {
	rows := []api.Wide{
		wideOf(0, 0), wideOf(0, 1), wideOf(0, 1<<63), wideOf(0, top), wideOf(1, 0), wideOf(1, top), wideOf(2, 0),
		wideOf(1<<63-1, top), wideOf(1<<63, 0), wideOf(top, 0), wideOf(top, top-1), wideOf(top, top),
	}
	for i, a := range rows {
		for k, b := range rows {
			want := 0
			if i < k {
				want = -1
			}
			if i > k {
				want = 1
			}
			if got := Cmp(a, b); got != want {
				t.Errorf("Cmp(%v, %v) = %d, want %d", a, b, got, want)
			}
		}
	}
}

// 1.1: the order is that of the numbers Hi * 2^64 + Lo.
func TestCmpExact(t *testing.T) {
	list := wides()
	for _, a := range list {
		for _, b := range list {
			if got, want := Cmp(a, b), bigOf(a).Cmp(bigOf(b)); got != want {
				t.Errorf("Cmp(%v, %v) = %d, want %d", a, b, got, want)
			}
		}
	}
}

// 1.2: products and squares of differences of coordinates are exact up to the greatest ones, and are told apart from their neighbours.
func TestCoordinatesExact(t *testing.T) {
	list := []int64{0, 1, -1, 254, far - 1, far, far + 1, -far, 2*far - 1, 2 * far, -2 * far}
	for _, x := range list {
		for _, y := range list {
			sum, ok := Add(Sq(x), Sq(y))
			want := new(big.Int).Mul(big.NewInt(x), big.NewInt(x))
			want.Add(want, new(big.Int).Mul(big.NewInt(y), big.NewInt(y)))
			if !ok || bigOf(sum).Cmp(want) != 0 {
				t.Errorf("Sq(%d) + Sq(%d) = %v, %v, want %s", x, y, sum, ok, want)
			}
			checkMul(t, Abs(x), Abs(y))
		}
	}
	// A cross product of such differences is at most 2^61, and its square needs 123 bits.
	cross := uint64(1) << 61
	square := Mul(cross, cross)
	if square != wideOf(1<<58, 0) || Cmp(square, Mul(cross, cross-1)) != 1 || Cmp(square, Mul(cross-1, cross+1)) != 1 {
		t.Error(square, Mul(cross, cross-1), Mul(cross-1, cross+1))
	}
}

// 1.3: the greatest arguments, and whatever else, give an answer and no panic.
func TestNoPanic(t *testing.T) {
	defer func() {
		if r := recover(); r != nil {
			t.Errorf("panic: %v", r)
		}
	}()
	for _, a := range words() {
		v := int64(a)
		Abs(v)
		Sq(v)
		for _, b := range words() {
			hi, lo := bits.Mul64(a, b)
			if got := Mul(a, b); got != wideOf(hi, lo) {
				t.Errorf("Mul(%d, %d) = %v, want %d, %d", a, b, got, hi, lo)
			}
			Add(wideOf(a, b), wideOf(b, a))
			Cmp(wideOf(a, b), wideOf(b, a))
		}
	}
}
