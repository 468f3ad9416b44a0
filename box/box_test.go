package box

import (
	"math"
	"math/big"
	"math/rand"
	"testing"

	"heliograph/api"
	"heliograph/sample"
)

const far = int64(api.Far)

func bx(x0, y0, x1, y1 int64) api.Box { return api.Box{X0: x0, Y0: y0, X1: x1, Y1: y1} }

func pt(x, y int64) api.Pt { return api.Pt{X: x, Y: y} }

// 4.1: Ok at the limits of every number and beyond them, and with ends in the right order and exchanged.
func TestOk(t *testing.T) {
	cases := []struct {
		b    api.Box
		want bool
	}{
		{bx(0, 0, 0, 0), true}, {bx(1, 2, 3, 4), true}, {bx(-4, -3, -2, -1), true}, {bx(5, 5, 5, 9), true}, {bx(5, 5, 9, 5), true},
		{bx(-far, -far, far, far), true}, {bx(far, far, far, far), true}, {bx(-far, -far, -far, -far), true}, {bx(-far, far, far, far), true},
		{bx(1, 0, 0, 0), false}, {bx(0, 1, 0, 0), false}, {bx(0, 0, -1, 0), false}, {bx(0, 0, 0, -1), false}, {bx(1, 1, 0, 0), false},
		{bx(far, 0, -far, 0), false}, {bx(0, far, 0, -far), false}, {bx(-far+1, 0, -far, 0), false}, {bx(0, far, 0, far-1), false},
		{bx(-far-1, 0, 0, 0), false}, {bx(0, -far-1, 0, 0), false}, {bx(0, 0, far+1, 0), false}, {bx(0, 0, 0, far+1), false},
		{bx(far+1, 0, far+1, 0), false}, {bx(0, far+1, 0, far+1), false}, {bx(-far-1, 0, -far-1, 0), false}, {bx(0, -far-1, 0, -far-1), false},
		{bx(far+1, 0, 0, 0), false}, {bx(0, 0, -far-1, 0), false}, {bx(0, far+1, 0, 0), false}, {bx(0, 0, 0, -far-1), false},
		{bx(math.MinInt64, 0, 0, 0), false}, {bx(0, 0, math.MaxInt64, 0), false}, {bx(0, math.MinInt64, 0, 0), false}, {bx(0, 0, 0, math.MaxInt64), false},
		{bx(math.MinInt64, math.MinInt64, math.MaxInt64, math.MaxInt64), false}, {bx(math.MaxInt64, 0, math.MinInt64, 0), false},
		{bx(1<<32, 0, 1<<32, 0), false}, {bx(0, 1<<32, 0, 1<<32), false},
	}
	for _, c := range cases {
		if got := Ok(c.b); got != c.want {
			t.Errorf("Ok(%v) = %v", c.b, got)
		}
	}
}

// 4.1: Ok for all combinations of numbers around both limits and 0.
func TestOkEverywhere(t *testing.T) {
	list := []int64{-far - 1, -far, -far + 1, -1, 0, 1, far - 1, far, far + 1}
	inside := func(v int64) bool { return v >= -far && v <= far }
	for _, x0 := range list {
		for _, x1 := range list {
			for _, y0 := range list {
				for _, y1 := range list {
					want := x0 <= x1 && y0 <= y1 && inside(x0) && inside(x1) && inside(y0) && inside(y1)
					if b := bx(x0, y0, x1, y1); Ok(b) != want {
						t.Errorf("Ok(%v) = %v", b, !want)
					}
				}
			}
		}
	}
}

// 4.1: points inside, outside, on the edges and at the corners, also at Far.
func TestHas(t *testing.T) {
	b, all, line, dot := bx(2, 4, 8, 6), bx(-far, -far, far, far), bx(-3, 7, 5, 7), bx(far, -far, far, -far)
	cases := []struct {
		b    api.Box
		p    api.Pt
		want bool
	}{
		{b, pt(5, 5), true}, {b, pt(2, 4), true}, {b, pt(8, 4), true}, {b, pt(2, 6), true}, {b, pt(8, 6), true},
		{b, pt(2, 5), true}, {b, pt(8, 5), true}, {b, pt(5, 4), true}, {b, pt(5, 6), true},
		{b, pt(1, 5), false}, {b, pt(9, 5), false}, {b, pt(5, 3), false}, {b, pt(5, 7), false},
		{b, pt(1, 3), false}, {b, pt(9, 7), false}, {b, pt(1, 7), false}, {b, pt(9, 3), false}, {b, pt(4, 2), false}, {b, pt(-5, -5), false},
		{all, pt(0, 0), true}, {all, pt(far, far), true}, {all, pt(-far, -far), true}, {all, pt(far, -far), true}, {all, pt(-far, 0), true},
		{line, pt(-3, 7), true}, {line, pt(0, 7), true}, {line, pt(5, 7), true}, {line, pt(6, 7), false}, {line, pt(-4, 7), false}, {line, pt(0, 8), false}, {line, pt(0, 6), false},
		{dot, pt(far, -far), true}, {dot, pt(far-1, -far), false}, {dot, pt(far, -far+1), false}, {dot, pt(-far, far), false},
	}
	for _, c := range cases {
		if got := Has(c.b, c.p); got != c.want {
			t.Errorf("Has(%v, %v) = %v", c.b, c.p, got)
		}
	}
}

// 4.1: Has answers true for just the points of a box.
func TestHasEverywhere(t *testing.T) {
	for _, b := range sample.Boxes(-2, 2) {
		inside := map[api.Pt]int{}
		for _, p := range sample.Points(b) {
			inside[p]++
		}
		for _, p := range sample.Points(bx(-4, -4, 4, 4)) {
			if Has(b, p) != (inside[p] > 0) {
				t.Errorf("Has(%v, %v) = %v", b, p, Has(b, p))
			}
		}
	}
}

// 4.1: the corners in their order.
func TestCorners(t *testing.T) {
	cases := []struct {
		b    api.Box
		want [4]api.Pt
	}{
		{bx(2, 4, 8, 6), [4]api.Pt{pt(2, 4), pt(8, 4), pt(2, 6), pt(8, 6)}},
		{bx(-7, -5, 3, -1), [4]api.Pt{pt(-7, -5), pt(3, -5), pt(-7, -1), pt(3, -1)}},
		{bx(1, 2, 1, 9), [4]api.Pt{pt(1, 2), pt(1, 2), pt(1, 9), pt(1, 9)}},
		{bx(1, 2, 9, 2), [4]api.Pt{pt(1, 2), pt(9, 2), pt(1, 2), pt(9, 2)}},
		{bx(3, 4, 3, 4), [4]api.Pt{pt(3, 4), pt(3, 4), pt(3, 4), pt(3, 4)}},
		{bx(-far, -far+1, far-1, far), [4]api.Pt{pt(-far, -far+1), pt(far-1, -far+1), pt(-far, far), pt(far-1, far)}},
	}
	for _, c := range cases {
		if got := Corners(c.b); got != c.want {
			t.Errorf("Corners(%v) = %v", c.b, got)
		}
	}
}

// 4.1: the quarters in the order of the corners, also of boxes with sides of 2, beyond 0, and at Far.
func TestSplit(t *testing.T) {
	cases := []struct {
		b    api.Box
		want [4]api.Box
	}{
		{bx(2, 4, 8, 6), [4]api.Box{bx(2, 4, 5, 5), bx(5, 4, 8, 5), bx(2, 5, 5, 6), bx(5, 5, 8, 6)}},
		{bx(0, 0, 2, 2), [4]api.Box{bx(0, 0, 1, 1), bx(1, 0, 2, 1), bx(0, 1, 1, 2), bx(1, 1, 2, 2)}},
		{bx(-1, -1, 1, 1), [4]api.Box{bx(-1, -1, 0, 0), bx(0, -1, 1, 0), bx(-1, 0, 0, 1), bx(0, 0, 1, 1)}},
		{bx(-3, -5, 1, -1), [4]api.Box{bx(-3, -5, -1, -3), bx(-1, -5, 1, -3), bx(-3, -3, -1, -1), bx(-1, -3, 1, -1)}},
		{bx(-far, -far, far, far), [4]api.Box{bx(-far, -far, 0, 0), bx(0, -far, far, 0), bx(-far, 0, 0, far), bx(0, 0, far, far)}},
		{bx(far-2, -far, far, -far+2), [4]api.Box{bx(far-2, -far, far-1, -far+1), bx(far-1, -far, far, -far+1), bx(far-2, -far+1, far-1, -far+2), bx(far-1, -far+1, far, -far+2)}},
	}
	for _, c := range cases {
		if got, ok := Split(c.b); got != c.want || !ok {
			t.Errorf("Split(%v) = %v, %v", c.b, got, ok)
		}
	}
}

// 4.1: boxes that have no quarters, with zeros beside the false.
func TestSplitRefuses(t *testing.T) {
	list := []api.Box{
		bx(0, 0, 0, 0), bx(5, 5, 5, 5), bx(0, 0, 0, 2), bx(0, 0, 2, 0), bx(1, 1, 1, 9), bx(far, -far, far, far), bx(-far, far, far, far),
		bx(0, 0, 1, 1), bx(0, 0, 1, 2), bx(0, 0, 2, 1), bx(0, 0, 3, 4), bx(0, 0, 4, 3), bx(-1, -1, 0, 1), bx(-1, -1, 1, 0), bx(-2, -2, 1, 2),
		bx(-far, -far, far-1, far), bx(-far, -far, far, far-1), bx(-far+1, -far, far, far),
		bx(2, 0, 0, 2), bx(0, 2, 2, 0), bx(2, 2, 0, 0), bx(4, 0, 0, 4), bx(far, -far, -far, far), bx(0, 1, 2, -1), bx(3, 0, 2, 2),
		bx(0, 0, far+2, 2), bx(0, 0, 2, far+2), bx(-far-2, 0, 0, 2), bx(0, -far-2, 2, 0), bx(far, 0, far+2, 2), bx(-far-2, -far-2, far+2, far+2),
		bx(math.MinInt64, 0, 0, 2), bx(0, math.MinInt64, 2, 0), bx(math.MinInt64, math.MinInt64, math.MaxInt64-1, math.MaxInt64-1), bx(-2, -2, math.MaxInt64-1, 2), bx(math.MaxInt64, 0, math.MinInt64+1, 2),
	}
	for _, b := range list {
		if got, ok := Split(b); got != [4]api.Box{} || ok {
			t.Errorf("Split(%v) = %v, %v", b, got, ok)
		}
	}
}

// checkQuarters checks what 4.1 says of the quarters: their sizes and places, one at each corner.
func checkQuarters(t *testing.T, b api.Box) {
	t.Helper()
	w, h := b.X1-b.X0, b.Y1-b.Y0
	quarters, ok := Split(b)
	if want := w > 0 && h > 0 && w%2 == 0 && h%2 == 0; ok != want {
		t.Fatalf("Split(%v) = %v, %v", b, quarters, ok)
	}
	if !ok {
		if quarters != [4]api.Box{} {
			t.Fatalf("Split(%v) = %v, %v", b, quarters, ok)
		}
		return
	}
	for i, q := range quarters {
		if 2*(q.X1-q.X0) != w || 2*(q.Y1-q.Y0) != h || !Ok(q) || Corners(q)[i] != Corners(b)[i] {
			t.Fatalf("Split(%v) = %v", b, quarters)
		}
	}
}

// 4.1: all small boxes, at either Far and around 0, and boxes of any size.
func TestSplitEverywhere(t *testing.T) {
	for _, b := range sample.Boxes(0, 6) {
		for _, by := range []int64{-far, -3, 0, far - 6} {
			checkQuarters(t, bx(b.X0+by, b.Y0+by, b.X1+by, b.Y1+by))
			checkQuarters(t, bx(b.X0+by, b.Y0-3, b.X1+by, b.Y1-3))
		}
	}
	random := rand.New(rand.NewSource(41))
	for range 100000 {
		checkQuarters(t, sample.Box(random.Int63n))
	}
}

// 4.1: the greatest box can be split until its quarters have sides of 1, which is 30 times.
func TestSplitToTheEnd(t *testing.T) {
	for corner := range 4 {
		b, times := bx(-far, -far, far, far), 0
		for {
			quarters, ok := Split(b)
			if !ok {
				break
			}
			b = quarters[corner]
			times++
		}
		if times != 30 || b.X1-b.X0 != 1 || b.Y1-b.Y0 != 1 || Corners(b)[corner] != Corners(bx(-far, -far, far, far))[corner] {
			t.Errorf("corner %d: %v after %d times", corner, b, times)
		}
	}
}

// 4.2: squares of distances that are known, from inside, the edges, the corners and outside, up to Far.
func TestNearAndMost(t *testing.T) {
	b, dot, line := bx(2, 4, 8, 6), bx(3, -4, 3, -4), bx(-2, 5, 7, 5)
	all, end := bx(-far, -far, far, far), bx(far, far, far, far)
	cases := []struct {
		b          api.Box
		p          api.Pt
		near, most int64
	}{
		{b, pt(5, 5), 0, 10}, {b, pt(3, 5), 0, 26}, {b, pt(7, 5), 0, 26}, {b, pt(2, 4), 0, 40}, {b, pt(8, 4), 0, 40}, {b, pt(2, 6), 0, 40}, {b, pt(8, 6), 0, 40}, {b, pt(2, 5), 0, 37}, {b, pt(5, 4), 0, 13},
		{b, pt(1, 5), 1, 50}, {b, pt(9, 5), 1, 50}, {b, pt(5, 9), 9, 34}, {b, pt(5, 1), 9, 34},
		{b, pt(11, 10), 25, 117}, {b, pt(-1, 0), 25, 117}, {b, pt(-1, 10), 25, 117}, {b, pt(11, 0), 25, 117}, {b, pt(1, 3), 2, 58},
		{dot, pt(3, -4), 0, 0}, {dot, pt(0, 0), 25, 25}, {dot, pt(4, -4), 1, 1}, {dot, pt(3, -6), 4, 4},
		{line, pt(0, 5), 0, 49}, {line, pt(3, 5), 0, 25}, {line, pt(2, 5), 0, 25}, {line, pt(0, 8), 9, 58}, {line, pt(-5, 1), 25, 160}, {line, pt(7, 5), 0, 81},
		{all, pt(0, 0), 0, 1 << 59}, {all, pt(far, far), 0, 1 << 61}, {all, pt(-far, far), 0, 1 << 61}, {all, pt(1, 0), 0, (far+1)*(far+1) + far*far},
		{end, pt(-far, -far), 1 << 61, 1 << 61}, {end, pt(far, -far), 1 << 60, 1 << 60}, {end, pt(far-1, far), 1, 1}, {end, pt(far, far), 0, 0},
		{bx(-far, -far, -far, -far), pt(far, far), 1 << 61, 1 << 61}, {bx(-far, -far, far, -far), pt(0, far), 1 << 60, 1<<60 + 1<<58},
	}
	for _, c := range cases {
		if near, most := Near(c.b, c.p), Most(c.b, c.p); near != c.near || most != c.most {
			t.Errorf("%v, %v: Near %d, Most %d, want %d, %d", c.b, c.p, near, most, c.near, c.most)
		}
	}
}

// 4.2, 4.3: Near and Most are the least and the greatest of the distances of all whole points of a box: from a whole point, its nearest and farthest points are whole.
func TestDistancesEverywhere(t *testing.T) {
	for _, b := range sample.Boxes(-3, 2) {
		for _, p := range sample.Points(bx(-6, -6, 6, 6)) {
			near, most := int64(math.MaxInt64), int64(-1)
			for _, q := range sample.Points(b) {
				d := (q.X-p.X)*(q.X-p.X) + (q.Y-p.Y)*(q.Y-p.Y)
				near, most = min(near, d), max(most, d)
			}
			if Near(b, p) != near || Most(b, p) != most {
				t.Fatalf("%v, %v: Near %d, Most %d, want %d, %d", b, p, Near(b, p), Most(b, p), near, most)
			}
		}
	}
}

// bigDistance is the square of the distance between p and q.
func bigDistance(p, q api.Pt) *big.Int {
	x := new(big.Int).Sub(big.NewInt(p.X), big.NewInt(q.X))
	y := new(big.Int).Sub(big.NewInt(p.Y), big.NewInt(q.Y))
	return x.Add(x.Mul(x, x), y.Mul(y, y))
}

// 4.2, 4.3: in boxes of any size up to Far, no point is nearer than Near or farther than Most, and both are reached: Most at a corner, Near at a corner or where p is level with the box.
func TestDistancesAnySize(t *testing.T) {
	random := rand.New(rand.NewSource(42))
	for range 50000 {
		b, p := sample.Box(random.Int63n), sample.Point(random.Int63n)
		list := Corners(b)
		places := list[:]
		if b.X0 <= p.X && p.X <= b.X1 {
			places = append(places, pt(p.X, b.Y0), pt(p.X, b.Y1))
		}
		if b.Y0 <= p.Y && p.Y <= b.Y1 {
			places = append(places, pt(b.X0, p.Y), pt(b.X1, p.Y))
		}
		if Has(b, p) {
			places = append(places, p)
		}
		near, most := bigDistance(p, places[0]), bigDistance(p, places[0])
		for _, q := range places {
			d := bigDistance(p, q)
			if d.Cmp(near) < 0 {
				near = d
			}
			if d.Cmp(most) > 0 {
				most = d
			}
		}
		if big.NewInt(Near(b, p)).Cmp(near) != 0 || big.NewInt(Most(b, p)).Cmp(most) != 0 {
			t.Fatalf("%v, %v: Near %d, Most %d, want %s, %s", b, p, Near(b, p), Most(b, p), near, most)
		}
	}
}

// 4.2: cross products that are known.
func TestCross(t *testing.T) {
	cases := []struct {
		o, a, b api.Pt
		want    int64
	}{
		{pt(0, 0), pt(1, 0), pt(0, 1), 1}, {pt(0, 0), pt(0, 1), pt(1, 0), -1}, {pt(0, 0), pt(2, 3), pt(5, 7), -1},
		{pt(1, 1), pt(3, 1), pt(1, 4), 6}, {pt(1, 1), pt(1, 4), pt(3, 1), -6}, {pt(-2, 5), pt(1, 4), pt(6, 7), 14},
		{pt(4, 4), pt(4, 4), pt(9, 1), 0}, {pt(4, 4), pt(9, 1), pt(4, 4), 0}, {pt(4, 4), pt(4, 4), pt(4, 4), 0}, {pt(0, 0), pt(3, 6), pt(5, 10), 0}, {pt(0, 0), pt(3, 6), pt(-5, -10), 0}, {pt(1, 2), pt(7, 7), pt(7, 7), 0},
		{pt(-far, -far), pt(far, -far), pt(-far, far), 1 << 60}, {pt(-far, -far), pt(-far, far), pt(far, -far), -1 << 60}, {pt(far, far), pt(-far, far), pt(far, -far), 1 << 60},
		{pt(-far, -far), pt(far, far), pt(far-1, far), 1 << 30}, {pt(-far, -far), pt(far, far), pt(far, far-1), -1 << 30}, {pt(-far, -far), pt(far, far-1), pt(far-1, far-2), -1},
		{pt(-far, -far), pt(far, far), pt(0, 0), 0}, {pt(0, 0), pt(far, far), pt(-far, far), 1 << 59},
	}
	for _, c := range cases {
		if got := Cross(c.o, c.a, c.b); got != c.want {
			t.Errorf("Cross(%v, %v, %v) = %d, want %d", c.o, c.a, c.b, got, c.want)
		}
	}
}

// 4.2: cross products of any points up to Far are exact.
func TestCrossExact(t *testing.T) {
	random := rand.New(rand.NewSource(43))
	for range 100000 {
		o, a, b := sample.Point(random.Int63n), sample.Point(random.Int63n), sample.Point(random.Int63n)
		first := new(big.Int).Mul(big.NewInt(a.X-o.X), big.NewInt(b.Y-o.Y))
		second := new(big.Int).Mul(big.NewInt(a.Y-o.Y), big.NewInt(b.X-o.X))
		if want := first.Sub(first, second); big.NewInt(Cross(o, a, b)).Cmp(want) != 0 {
			t.Fatalf("Cross(%v, %v, %v) = %d, want %s", o, a, b, Cross(o, a, b), want)
		}
	}
}

func checkMeets(t *testing.T, b api.Box, p, q api.Pt, want bool) {
	t.Helper()
	if Meets(b, p, q) != want || Meets(b, q, p) != want {
		t.Fatalf("Meets(%v, %v, %v) = %v, the other way round %v", b, p, q, Meets(b, p, q), Meets(b, q, p))
	}
}

// 4.2: segments through a box, inside it, along its edges, at its corners, and beside it.
func TestMeets(t *testing.T) {
	b, dot, line := bx(0, 0, 4, 4), bx(3, 1, 3, 1), bx(0, 2, 4, 2)
	cases := []struct {
		b    api.Box
		p, q api.Pt
		want bool
	}{
		// Through the box, or inside it, or with one end inside.
		{b, pt(-1, 2), pt(5, 2), true}, {b, pt(2, -1), pt(2, 5), true}, {b, pt(-1, -1), pt(5, 5), true}, {b, pt(-1, 5), pt(5, -1), true}, {b, pt(-9, -9), pt(9, 8), true}, {b, pt(1, 1), pt(3, 2), true}, {b, pt(2, 2), pt(9, 90), true},
		// Only one point, in a corner or on an edge.
		{b, pt(-2, 2), pt(2, 6), true}, {b, pt(2, 6), pt(6, 2), true}, {b, pt(2, -2), pt(6, 2), true}, {b, pt(-2, 2), pt(2, -2), true}, {b, pt(4, 4), pt(9, 9), true}, {b, pt(-3, -7), pt(0, 0), true}, {b, pt(4, -9), pt(4, 0), true}, {b, pt(2, 4), pt(1, 9), true}, {b, pt(-5, 3), pt(0, 3), true}, {b, pt(4, 4), pt(5, 3), true},
		// Along an edge, or beyond it.
		{b, pt(0, 0), pt(4, 0), true}, {b, pt(1, 4), pt(3, 4), true}, {b, pt(-9, 4), pt(9, 4), true}, {b, pt(4, -9), pt(4, 9), true}, {b, pt(4, -9), pt(4, 2), true}, {b, pt(0, 4), pt(0, 9), true},
		{b, pt(4, -9), pt(4, -1), false}, {b, pt(4, 5), pt(4, 9), false}, {b, pt(5, 0), pt(9, 0), false}, {b, pt(-9, 4), pt(-1, 4), false}, {b, pt(5, 0), pt(5, 4), false}, {b, pt(0, -1), pt(4, -1), false}, {b, pt(-1, -1), pt(-1, 5), false}, {b, pt(-1, 5), pt(5, 5), false},
		// Slanted past a corner.
		{b, pt(-3, 2), pt(2, 7), false}, {b, pt(3, 6), pt(6, 3), false}, {b, pt(3, -2), pt(6, 1), false}, {b, pt(-2, 1), pt(1, -2), false}, {b, pt(-1, 4), pt(4, 9), false}, {b, pt(-2, 3), pt(2, 6), false}, {b, pt(1, 7), pt(7, 2), false}, {b, pt(2, 6), pt(7, 2), false}, {b, pt(1, 6), pt(6, 2), true},
		// The line goes through the box, but the segment ends before it.
		{b, pt(5, 5), pt(9, 9), false}, {b, pt(-9, -9), pt(-1, -1), false}, {b, pt(5, 2), pt(9, 2), false}, {b, pt(2, 5), pt(2, 9), false}, {b, pt(-3, 6), pt(-1, 5), false}, {b, pt(6, -1), pt(5, 0), false},
		// Segments of one point.
		{b, pt(2, 2), pt(2, 2), true}, {b, pt(0, 0), pt(0, 0), true}, {b, pt(4, 3), pt(4, 3), true}, {b, pt(5, 5), pt(5, 5), false}, {b, pt(5, 2), pt(5, 2), false}, {b, pt(2, -1), pt(2, -1), false},
		// Boxes of one point or one line.
		{dot, pt(3, 1), pt(3, 1), true}, {dot, pt(3, 2), pt(3, 2), false}, {dot, pt(0, 0), pt(6, 2), true}, {dot, pt(0, 0), pt(6, 3), false}, {dot, pt(0, 0), pt(9, 3), true}, {dot, pt(3, 1), pt(5, 0), true}, {dot, pt(6, 2), pt(9, 3), false}, {dot, pt(2, 1), pt(4, 2), false},
		{line, pt(2, 0), pt(2, 9), true}, {line, pt(2, 0), pt(2, 2), true}, {line, pt(2, 0), pt(2, 1), false}, {line, pt(-5, 2), pt(0, 2), true}, {line, pt(-5, 2), pt(-1, 2), false}, {line, pt(1, 2), pt(2, 2), true}, {line, pt(-1, 1), pt(9, 3), true}, {line, pt(4, 0), pt(6, 4), false}, {line, pt(3, 0), pt(5, 4), true}, {line, pt(0, 3), pt(4, 3), false},
	}
	for _, c := range cases {
		checkMeets(t, c.b, c.p, c.q, c.want)
	}
}

// 4.2: segments that pass a box by the least distance there is, or touch it, with everything up to Far.
func TestMeetsFar(t *testing.T) {
	all, end, dot := bx(-far, -far, far, far), bx(far, far, far, far), bx(0, 0, 0, 0)
	cases := []struct {
		b    api.Box
		p, q api.Pt
		want bool
	}{
		{all, pt(-far, -far), pt(-far, -far), true}, {all, pt(far, -far), pt(far, far), true}, {all, pt(-far, far), pt(far, -far), true},
		{end, pt(-far, -far), pt(far, far), true}, {end, pt(-far, -far), pt(far, far-1), false}, {end, pt(-far, far), pt(far, far), true}, {end, pt(-far, far), pt(far-1, far), false}, {end, pt(far, far), pt(far, far), true},
		{dot, pt(-far, -far), pt(far, far), true}, {dot, pt(-far, far), pt(far, -far), true}, {dot, pt(-far, -far), pt(far, far-1), false}, {dot, pt(-far, -far), pt(far-1, far), false}, {dot, pt(-far, 1-far), pt(far, far), false}, {dot, pt(1-far, -far), pt(far-1, far), true},
		{bx(0, 0, 1, 1), pt(-far, 1-far), pt(far-1, far), true}, {bx(0, 0, 1, 1), pt(-far, 2-far), pt(far-2, far), false}, {bx(-far, -far, 0, 0), pt(-1, far), pt(2, -far), false}, {bx(-far, -far, 0, 0), pt(-far, 1), pt(far, -1), true},
		{bx(-far, -far, 0, 0), pt(-far, 2), pt(far, -1), false}, {bx(-far, -far, 0, 0), pt(-far, 1), pt(far-1, -1), true}, {bx(0, 0, far, far), pt(-far, 1), pt(far-1, -1), false}, {bx(-far, -far, -far, -far), pt(1-far, -far), pt(far, far), false},
	}
	for _, c := range cases {
		checkMeets(t, c.b, c.p, c.q, c.want)
	}
}

// clip shortens the range from..to of the places on a segment, of which 0 is the beginning and 1 the end, to those whose coordinate lies from low to high. It returns false if none is left.
func clip(from, to *big.Rat, start, end, low, high int64) bool {
	if start == end {
		return low <= start && start <= high
	}
	first, last := big.NewRat(low-start, end-start), big.NewRat(high-start, end-start)
	if first.Cmp(last) > 0 {
		first, last = last, first
	}
	if first.Cmp(from) > 0 {
		from.Set(first)
	}
	if last.Cmp(to) < 0 {
		to.Set(last)
	}
	return from.Cmp(to) <= 0
}

// meetsOf is 4.2 about Meets, by another way than its own: the places of the segment that lie in b, as exact fractions.
func meetsOf(b api.Box, p, q api.Pt) bool {
	from, to := big.NewRat(0, 1), big.NewRat(1, 1)
	return clip(from, to, p.X, q.X, b.X0, b.X1) && clip(from, to, p.Y, q.Y, b.Y0, b.Y1)
}

// 4.2: all segments between points around a few boxes.
func TestMeetsEverywhere(t *testing.T) {
	ends := sample.Points(bx(-3, -3, 5, 5))
	for _, b := range []api.Box{bx(0, 0, 0, 0), bx(0, 0, 1, 1), bx(0, 0, 2, 0), bx(1, 0, 1, 2), bx(0, 0, 2, 1), bx(-1, 0, 2, 3), bx(-1, -1, 3, 0)} {
		for _, p := range ends {
			for _, q := range ends {
				checkMeets(t, b, p, q, meetsOf(b, p, q))
			}
		}
	}
}

// 4.2: boxes and segments of any size up to Far, half of the segments through or close by a corner of the box.
func TestMeetsAnySize(t *testing.T) {
	random := rand.New(rand.NewSource(44))
	for i := range 100000 {
		b, p, q := sample.Box(random.Int63n), sample.Point(random.Int63n), sample.Point(random.Int63n)
		if i%2 == 0 {
			corner := Corners(b)[random.Intn(4)]
			x, y := random.Int63n(far)>>random.Intn(29)-1, random.Int63n(far)>>random.Intn(29)-1
			if i%4 == 0 {
				y = -y
			}
			p, q = pt(corner.X-x, corner.Y-y), pt(corner.X+x+random.Int63n(3)-1, corner.Y+y+random.Int63n(3)-1)
		}
		if !Has(bx(-far, -far, far, far), p) || !Has(bx(-far, -far, far, far), q) {
			continue
		}
		checkMeets(t, b, p, q, meetsOf(b, p, q))
	}
}

func checkApart(t *testing.T, a, b api.Box, want bool) {
	t.Helper()
	if Apart(a, b) != want || Apart(b, a) != want {
		t.Fatalf("Apart(%v, %v) = %v, the other way round %v", a, b, Apart(a, b), Apart(b, a))
	}
}

// 4.2: boxes that touch in an edge or a corner, overlap, contain each other, cross, or are separated by as little as 1.
func TestApart(t *testing.T) {
	b := bx(2, 4, 8, 6)
	cases := []struct {
		a, b api.Box
		want bool
	}{
		{b, b, false}, {b, bx(3, 5, 3, 5), false}, {b, bx(0, 0, 10, 10), false}, {b, bx(4, 0, 5, 10), false}, {b, bx(0, 5, 10, 5), false}, {b, bx(7, 5, 9, 9), false},
		{b, bx(8, 6, 9, 9), false}, {b, bx(0, 0, 2, 4), false}, {b, bx(8, 0, 9, 4), false}, {b, bx(0, 6, 2, 9), false},
		{b, bx(8, 4, 9, 6), false}, {b, bx(0, 4, 2, 6), false}, {b, bx(2, 6, 8, 9), false}, {b, bx(2, 0, 8, 4), false}, {b, bx(8, 5, 8, 5), false},
		{b, bx(9, 4, 10, 6), true}, {b, bx(0, 4, 1, 6), true}, {b, bx(2, 7, 8, 9), true}, {b, bx(2, 0, 8, 3), true},
		{b, bx(9, 7, 10, 10), true}, {b, bx(0, 0, 1, 3), true}, {b, bx(9, 0, 10, 3), true}, {b, bx(0, 7, 1, 9), true}, {b, bx(9, 6, 10, 10), true}, {b, bx(8, 7, 10, 10), true}, {b, bx(9, 0, 9, 10), true}, {b, bx(0, 7, 10, 7), true},
		{bx(1, 1, 1, 1), bx(1, 1, 1, 1), false}, {bx(1, 1, 1, 1), bx(1, 2, 1, 2), true}, {bx(1, 1, 1, 1), bx(2, 1, 2, 1), true}, {bx(0, 1, 5, 1), bx(3, 0, 3, 5), false}, {bx(0, 1, 5, 1), bx(5, 1, 9, 1), false}, {bx(0, 1, 5, 1), bx(6, 1, 9, 1), true},
		{bx(-far, -far, far, far), bx(far, far, far, far), false}, {bx(-far, -far, far, far), bx(0, 0, 0, 0), false}, {bx(-far, -far, 0, 0), bx(0, 0, far, far), false}, {bx(-far, -far, 0, 0), bx(1, 0, far, far), true}, {bx(-far, -far, 0, far), bx(-far, -far, 0, -far), false},
		{bx(-far, -far, -far, -far), bx(far, far, far, far), true}, {bx(far, -far, far, far), bx(far-1, -far, far-1, far), true}, {bx(-far, far, far, far), bx(-far, -far, far, far-1), true},
	}
	for _, c := range cases {
		checkApart(t, c.a, c.b, c.want)
	}
}

// 4.2: for all pairs of small boxes, Apart answers true just if they have no whole point in common: where two of them meet, they have a corner of an edge in common, which is whole.
func TestApartEverywhere(t *testing.T) {
	list := sample.Boxes(0, 4)
	for _, a := range list {
		inside := map[api.Pt]int{}
		for _, p := range sample.Points(a) {
			inside[p]++
		}
		for _, b := range list {
			common := 0
			for _, p := range sample.Points(b) {
				common += inside[p]
			}
			checkApart(t, a, b, common == 0)
		}
	}
}

// 4.3: the quarters of a box hold all of its points and no others, and have only their edges in common.
func TestQuartersHoldTheBox(t *testing.T) {
	for _, b := range sample.Boxes(-2, 4) {
		quarters, ok := Split(b)
		if !ok {
			continue
		}
		for _, p := range sample.Points(bx(-4, -4, 6, 6)) {
			times, inner := 0, 0
			for _, q := range quarters {
				if Has(q, p) {
					times++
				}
				if q.X0 < p.X && p.X < q.X1 && q.Y0 < p.Y && p.Y < q.Y1 {
					inner++
				}
			}
			if Has(b, p) != (times > 0) || inner > 0 && times != 1 {
				t.Fatalf("%v is in %d quarters of %v", p, times, b)
			}
		}
	}
}

// 4.3: what is said of a box agrees for all its points: their distances are from Near to Most, those of its quarters lie between those of the box, and boxes that are Apart and segments that don't meet a box miss each of its points.
func TestSaidOfAllPoints(t *testing.T) {
	random := rand.New(rand.NewSource(45))
	for range 20000 {
		b, a, p, q := sample.Box(random.Int63n), sample.Box(random.Int63n), sample.Point(random.Int63n), sample.Point(random.Int63n)
		near, most := Near(b, p), Most(b, p)
		if (near == 0) != Has(b, p) || near > most {
			t.Fatalf("%v, %v: Near %d, Most %d", b, p, near, most)
		}
		if quarters, ok := Split(b); ok {
			for _, quarter := range quarters {
				if Near(quarter, p) < near || Most(quarter, p) > most || Meets(quarter, p, q) && !Meets(b, p, q) || Apart(a, b) && !Apart(a, quarter) {
					t.Fatalf("%v is said otherwise of %v than of %v", p, quarter, b)
				}
			}
		}
		for range 20 {
			s := pt(b.X0+random.Int63n(b.X1-b.X0+1), b.Y0+random.Int63n(b.Y1-b.Y0+1))
			if d := bigDistance(s, p); !Has(b, s) || d.Cmp(big.NewInt(near)) < 0 || d.Cmp(big.NewInt(most)) > 0 || Has(a, s) && Apart(a, b) || !Meets(b, s, p) || !Meets(b, q, s) || Apart(b, bx(s.X, s.Y, s.X, s.Y)) {
				t.Fatalf("%v in %v: distance %s from %v", s, b, d, p)
			}
		}
	}
}

// callAll calls every function of the package.
func callAll(a, b api.Box, p, q api.Pt) {
	for _, s := range []api.Box{a, b} {
		Ok(s)
		Has(s, p)
		Corners(s)
		Split(s)
		Near(s, p)
		Most(s, q)
		Meets(s, p, q)
	}
	Cross(p, q, pt(a.X0, b.Y1))
	Apart(a, b)
}

// 4.4: exchanged ends and numbers up to the ends of 64 bits give an answer and no panic, and no quarters.
func TestNoPanic(t *testing.T) {
	defer func() {
		if r := recover(); r != nil {
			t.Errorf("panic: %v", r)
		}
	}()
	list := sample.Extremes()
	for _, x := range list {
		for _, y := range list {
			for _, z := range list {
				callAll(bx(x, y, z, y), bx(y, x, y, z), pt(x, z), pt(z, y))
				callAll(bx(z, z, x, y), bx(z, x, x, z), pt(y, y), pt(x, x))
			}
		}
	}
	random := rand.New(rand.NewSource(46))
	number := func() int64 {
		if random.Intn(2) == 0 {
			return list[random.Intn(len(list))]
		}
		return int64(random.Uint64()) >> random.Intn(64)
	}
	for range 300000 {
		a := bx(number(), number(), number(), number())
		callAll(a, bx(number(), number(), number(), number()), pt(number(), number()), pt(number(), number()))
		if quarters, ok := Split(a); ok && !Ok(a) || !ok && quarters != [4]api.Box{} {
			t.Fatalf("Split(%v) = %v, %v", a, quarters, ok)
		}
	}
}
