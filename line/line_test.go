package line

import (
	"math"
	"math/big"
	"math/rand"
	"testing"

	"heliograph/api"
	"heliograph/sample"
)

const (
	far    = int64(api.Far)
	across = sample.Across
)

func bx(x0, y0, x1, y1 int64) api.Box { return api.Box{X0: x0, Y0: y0, X1: x1, Y1: y1} }

func pt(x, y int64) api.Pt { return api.Pt{X: x, Y: y} }

func corners(b api.Box) []api.Pt {
	return []api.Pt{pt(b.X0, b.Y0), pt(b.X1, b.Y0), pt(b.X0, b.Y1), pt(b.X1, b.Y1)}
}

// checkHas checks Has, in both orders of the ends.
func checkHas(t *testing.T, p, a, c api.Pt, r int64, want bool) {
	t.Helper()
	if there, back := Has(p, a, c, r), Has(p, c, a, r); there != want || back != want {
		t.Errorf("Has(%v, %v, %v, %d) = %v, and %v with the ends exchanged, want %v", p, a, c, r, there, back, want)
	}
}

// checkClass checks Class, in both orders of the ends.
func checkClass(t *testing.T, b api.Box, a, c api.Pt, r int64, want int) {
	t.Helper()
	if there, back := Class(b, a, c, r), Class(b, c, a, r); there != want || back != want {
		t.Errorf("Class(%v, %v, %v, %d) = %d, and %d with the ends exchanged, want %d", b, a, c, r, there, back, want)
	}
}

// frac is the number n / d, where d is above 0.
type frac struct{ n, d *big.Int }

func (f frac) less(g frac) bool {
	return new(big.Int).Mul(f.n, g.d).Cmp(new(big.Int).Mul(g.n, f.d)) < 0
}

// within reports whether a stroke with radius r has points at a distance whose square is f.
func (f frac) within(r int64) bool {
	square := new(big.Int).Mul(big.NewInt(r), big.NewInt(r))
	return r >= 1 && f.n.Cmp(square.Mul(square, f.d)) <= 0
}

// root is the root of f, rounded down.
func (f frac) root() int64 {
	quotient := new(big.Int).Div(f.n, f.d)
	return quotient.Sqrt(quotient).Int64()
}

// gap is d times the distance between a range and the number that lies n / d of the way from start to end.
func gap(low, high, start, end, n, d int64) *big.Int {
	at := new(big.Int).Mul(big.NewInt(end-start), big.NewInt(n))
	at.Add(at, new(big.Int).Mul(big.NewInt(start), big.NewInt(d)))
	before := new(big.Int).Mul(big.NewInt(low), big.NewInt(d))
	if before.Sub(before, at).Sign() > 0 {
		return before
	}
	behind := new(big.Int).Mul(big.NewInt(high), big.NewInt(d))
	if behind.Sub(at, behind).Sign() > 0 {
		return behind
	}
	return new(big.Int)
}

// squareAt is the square of the distance between b and the point that lies n / d of the way from a to c.
func squareAt(b api.Box, a, c api.Pt, n, d int64) frac {
	x, y := gap(b.X0, b.X1, a.X, c.X, n, d), gap(b.Y0, b.Y1, a.Y, c.Y, n, d)
	x.Add(x.Mul(x, x), y.Mul(y, y))
	return frac{x, y.Mul(big.NewInt(d), big.NewInt(d))}
}

// squareOf is the square of the distance between b and the segment from a to c, found by trying each place of the segment where it can be: the ends, where it is level with a side of b, and where it is nearest to a corner.
func squareOf(b api.Box, a, c api.Pt) frac {
	least := squareAt(b, a, c, 0, 1)
	try := func(n, d int64) {
		if d < 0 {
			n, d = -n, -d
		}
		if d == 0 || n < 0 || n > d {
			return
		}
		if next := squareAt(b, a, c, n, d); next.less(least) {
			least = next
		}
	}
	x, y := c.X-a.X, c.Y-a.Y
	try(1, 1)
	try(b.X0-a.X, x)
	try(b.X1-a.X, x)
	try(b.Y0-a.Y, y)
	try(b.Y1-a.Y, y)
	for _, p := range corners(b) {
		try((p.X-a.X)*x+(p.Y-a.Y)*y, x*x+y*y)
	}
	return least
}

// farthest is the square of the distance between the segment and the point of b that is farthest from it: a corner, as the segment has all points between those that it has.
func farthest(b api.Box, a, c api.Pt) frac {
	most := frac{new(big.Int), big.NewInt(1)}
	for _, p := range corners(b) {
		if next := squareOf(sample.Dot(p), a, c); most.less(next) {
			most = next
		}
	}
	return most
}

// classOf is the class of a box whose nearest and farthest points are at these distances, squared.
func classOf(nearest, most frac, r int64) int {
	if !nearest.within(r) {
		return api.Out
	}
	if most.within(r) {
		return api.In
	}
	return api.Mixed
}

// hasOf is 7.1 for small numbers: lengths are told in parts of the segment, of which there are as many as its length squared.
func hasOf(p, a, c api.Pt, r int64) bool {
	x, y := c.X-a.X, c.Y-a.Y
	parts := x*x + y*y
	foot := min(max((p.X-a.X)*x+(p.Y-a.Y)*y, 0), parts)
	parts = max(parts, 1)
	u, v := parts*(p.X-a.X)-foot*x, parts*(p.Y-a.Y)-foot*y
	return r >= 1 && u*u+v*v <= r*r*parts*parts
}

// 7.1: points on the segment, beside it and beyond its ends, at a distance of exactly r and just beyond it.
func TestHas(t *testing.T) {
	o, along, up, slant := pt(0, 0), pt(10, 0), pt(0, 10), pt(8, 6)
	cases := []struct {
		p, a, c api.Pt
		r       int64
		want    bool
	}{
		// A segment along an axis: beside it, beyond its ends, and where both meet.
		{pt(5, 0), o, along, 5, true}, {pt(5, 5), o, along, 5, true}, {pt(5, -5), o, along, 5, true}, {pt(5, 6), o, along, 5, false}, {pt(5, -6), o, along, 5, false},
		{pt(-5, 0), o, along, 5, true}, {pt(15, 0), o, along, 5, true}, {pt(-6, 0), o, along, 5, false}, {pt(16, 0), o, along, 5, false}, {pt(-3, 4), o, along, 5, true}, {pt(13, -4), o, along, 5, true}, {pt(-4, 4), o, along, 5, false}, {pt(13, 5), o, along, 5, false}, {pt(14, -4), o, along, 5, false},
		{pt(0, 5), o, along, 5, true}, {pt(10, -5), o, along, 5, true}, {pt(0, 6), o, along, 5, false}, {pt(10, -6), o, along, 5, false}, {pt(-1, 5), o, along, 5, false}, {pt(11, 5), o, along, 5, false}, {pt(1, 5), o, along, 5, true}, {pt(9, -5), o, along, 5, true},
		{pt(0, 5), o, up, 5, true}, {pt(5, 5), o, up, 5, true}, {pt(-5, 5), o, up, 5, true}, {pt(6, 5), o, up, 5, false}, {pt(-6, 5), o, up, 5, false}, {pt(0, -5), o, up, 5, true}, {pt(0, 15), o, up, 5, true}, {pt(0, -6), o, up, 5, false}, {pt(0, 16), o, up, 5, false}, {pt(4, 13), o, up, 5, true}, {pt(4, 14), o, up, 5, false}, {pt(5, 10), o, up, 5, true}, {pt(5, 11), o, up, 5, false}, {pt(-5, 0), o, up, 5, true}, {pt(-5, -1), o, up, 5, false},
		// A slanted segment: (-3, 4) is across it, with length 5.
		{pt(4, 3), o, slant, 5, true}, {pt(1, 7), o, slant, 5, true}, {pt(7, -1), o, slant, 5, true}, {pt(0, 7), o, slant, 5, false}, {pt(1, 8), o, slant, 5, false}, {pt(8, -1), o, slant, 5, false}, {pt(7, -2), o, slant, 5, false}, {pt(-3, 4), o, slant, 5, true}, {pt(3, -4), o, slant, 5, true}, {pt(5, 10), o, slant, 5, true}, {pt(11, 2), o, slant, 5, true},
		{pt(-4, 4), o, slant, 5, false}, {pt(-3, 5), o, slant, 5, false}, {pt(3, -5), o, slant, 5, false}, {pt(4, -4), o, slant, 5, false}, {pt(4, 10), o, slant, 5, false}, {pt(5, 11), o, slant, 5, false}, {pt(12, 2), o, slant, 5, false}, {pt(11, 1), o, slant, 5, false},
		{pt(-4, -3), o, slant, 5, true}, {pt(-5, -3), o, slant, 5, false}, {pt(-4, -4), o, slant, 5, false}, {pt(12, 9), o, slant, 5, true}, {pt(13, 9), o, slant, 5, false}, {pt(13, 6), o, slant, 5, true}, {pt(8, 11), o, slant, 5, true}, {pt(8, 12), o, slant, 5, false}, {pt(14, 6), o, slant, 5, false}, {pt(-5, 0), o, slant, 5, true}, {pt(-5, 1), o, slant, 5, false},
		// On the line through the segment, far beyond its ends, and beyond one end, although near the line.
		{pt(16, 12), o, slant, 5, false}, {pt(-8, -6), o, slant, 5, false}, {pt(100, 0), o, along, 5, false}, {pt(-100, 1), o, along, 5, false}, {pt(16, 12), o, slant, 10, true}, {pt(16, 12), o, slant, 9, false}, {pt(17, 12), o, slant, 10, false},
		// Segments of one point.
		{o, o, o, 1, true}, {pt(1, 0), o, o, 1, true}, {pt(1, 1), o, o, 1, false}, {pt(3, 4), o, o, 5, true}, {pt(-4, 3), o, o, 5, true}, {pt(4, 4), o, o, 5, false}, {pt(0, 6), o, o, 5, false}, {pt(8, 6), slant, slant, 1, true}, {pt(11, 10), slant, slant, 5, true}, {o, slant, slant, 10, true}, {o, slant, slant, 9, false},
		// Radius 1, with the shortest segments there are.
		{o, o, pt(1, 0), 1, true}, {pt(1, 1), o, pt(1, 0), 1, true}, {pt(2, 0), o, pt(1, 0), 1, true}, {pt(-1, 0), o, pt(1, 0), 1, true}, {pt(2, 1), o, pt(1, 0), 1, false}, {pt(-1, 1), o, pt(1, 0), 1, false}, {pt(1, 0), o, pt(1, 1), 1, true}, {pt(0, 1), o, pt(1, 1), 1, true}, {pt(2, 1), o, pt(1, 1), 1, true}, {pt(2, 0), o, pt(1, 1), 1, false}, {pt(2, 2), o, pt(1, 1), 1, false}, {pt(-1, 1), o, pt(1, 1), 1, false}, {pt(3, 1), o, pt(5, 5), 1, false}, {pt(3, 2), o, pt(5, 5), 1, true}, {pt(3, 1), o, pt(5, 5), 2, true},
	}
	for _, x := range cases {
		checkHas(t, x.p, x.a, x.c, x.r, x.want)
	}
}

// 7.1: ends, points and radii up to Far, and points beside the longest segments by the least distances.
func TestHasAtFar(t *testing.T) {
	low, high, left, right := pt(-far, -far), pt(far, far), pt(-far, 0), pt(far, 0)
	cases := []struct {
		p, a, c api.Pt
		r       int64
		want    bool
	}{
		{pt(0, 0), left, right, 1, true}, {pt(0, 1), left, right, 1, true}, {pt(0, 2), left, right, 1, false}, {pt(far, 1), left, right, 1, true}, {pt(-far, -1), left, right, 1, true}, {pt(far, -2), left, right, 1, false}, {high, left, right, far, true}, {low, left, right, far, true}, {high, left, right, far - 1, false}, {pt(0, -far), left, right, far, true}, {pt(1, -far), left, right, far - 1, false},
		{pt(far, 3), low, pt(far, -far), far + 3, true}, {pt(far, 4), low, pt(far, -far), far + 3, false}, {high, low, pt(far, -far), 1 << 30, true}, {high, low, pt(far, -far), 1<<30 - 1, false},
		// The diagonal: its neighbours are at distances of the root of n^2 / 2.
		{pt(0, 0), low, high, 1, true}, {pt(0, 1), low, high, 1, true}, {pt(1, 0), low, high, 1, true}, {pt(0, 2), low, high, 1, false}, {pt(2, 0), low, high, 1, false}, {pt(0, 2), low, high, 2, true}, {pt(0, 3), low, high, 2, false}, {pt(far-1, far), low, high, 1, true}, {pt(-far, 2-far), low, high, 1, false}, {pt(0, 1414213), low, high, 1000000, true}, {pt(0, 1414214), low, high, 1000000, false}, {pt(1414213, 0), low, high, 1000000, true}, {pt(1414214, 0), low, high, 1000000, false},
		{pt(-far, far), low, high, 759250125, true}, {pt(-far, far), low, high, 759250124, false}, {pt(far, -far), low, high, 759250125, true}, {pt(far, -far), low, high, 759250124, false},
		// A direction without a common divisor: the point beside its middle is at a distance of nearly the root of 1 / 8.
		{pt(0, 0), low, pt(far, far-1), 1, true}, {pt(0, -1), low, pt(far, far-1), 1, true}, {pt(0, 1), low, pt(far, far-1), 1, false}, {pt(0, -2), low, pt(far, far-1), 1, false}, {pt(1, -1), low, pt(far, far-1), 2, true},
		// 3, 4 and 5 times the same: at a distance of exactly r from the line, and from an end.
		{pt(-3<<26, 4<<26), pt(0, 0), pt(8<<26, 6<<26), 5 << 26, true}, {pt(1<<26, 7<<26), pt(0, 0), pt(8<<26, 6<<26), 5 << 26, true}, {pt(1<<26-1, 7<<26), pt(0, 0), pt(8<<26, 6<<26), 5 << 26, false}, {pt(1<<26, 7<<26+1), pt(0, 0), pt(8<<26, 6<<26), 5 << 26, false}, {pt(1<<26, 7<<26), pt(0, 0), pt(8<<26, 6<<26), 5<<26 - 1, false}, {pt(-4<<26, -3<<26), pt(0, 0), pt(8<<26, 6<<26), 5 << 26, true}, {pt(-4<<26-1, -3<<26), pt(0, 0), pt(8<<26, 6<<26), 5 << 26, false},
		// Segments of one point at Far.
		{high, high, high, 1, true}, {pt(far, far-1), high, high, 1, true}, {pt(far-1, far-1), high, high, 1, false}, {low, high, high, across, true}, {low, high, high, across - 1, false}, {pt(0, 0), low, low, 759250125, true}, {pt(0, 0), low, low, 759250124, false},
	}
	for _, x := range cases {
		checkHas(t, x.p, x.a, x.c, x.r, x.want)
	}
}

// 7.1: near, touching, within, around, across and beside a stroke.
func TestClass(t *testing.T) {
	o, along, slant := pt(0, 0), pt(10, 0), pt(8, 6)
	cases := []struct {
		b    api.Box
		a, c api.Pt
		r    int64
		want int
	}{
		// Within the stroke, with corners on its edge, and with one corner or one line beyond it.
		{bx(1, -1, 9, 1), o, along, 5, api.In}, {bx(0, -5, 10, 5), o, along, 5, api.In}, {bx(-3, -4, 13, 4), o, along, 5, api.In}, {bx(-5, 0, 15, 0), o, along, 5, api.In}, {bx(-4, -3, 14, 3), o, along, 5, api.In}, {bx(4, 2, 6, 5), o, along, 5, api.In},
		{bx(-1, -5, 10, 5), o, along, 5, api.Mixed}, {bx(0, -5, 11, 5), o, along, 5, api.Mixed}, {bx(0, -5, 10, 6), o, along, 5, api.Mixed}, {bx(0, -6, 10, 5), o, along, 5, api.Mixed}, {bx(-4, -4, 13, 4), o, along, 5, api.Mixed}, {bx(-3, -4, 14, 4), o, along, 5, api.Mixed}, {bx(-6, 0, 15, 0), o, along, 5, api.Mixed}, {bx(-5, 0, 16, 0), o, along, 5, api.Mixed}, {bx(4, 2, 6, 6), o, along, 5, api.Mixed},
		{bx(0, 0, 8, 6), o, slant, 5, api.In}, {bx(2, 1, 6, 5), o, slant, 5, api.In}, {bx(1, -1, 7, 7), o, slant, 5, api.In}, {bx(1, -1, 8, 7), o, slant, 5, api.Mixed}, {bx(1, -2, 7, 7), o, slant, 5, api.Mixed}, {bx(0, -1, 7, 7), o, slant, 5, api.Mixed}, {bx(1, -1, 7, 8), o, slant, 5, api.Mixed}, {bx(-3, -4, 3, 4), o, slant, 5, api.In}, {bx(-4, -3, 4, 3), o, slant, 5, api.In}, {bx(-4, -3, 12, 9), o, slant, 5, api.Mixed}, {bx(5, 2, 11, 10), o, slant, 5, api.In},
		// All four corners just outside, although all sides meet the stroke.
		{bx(-4, -4, 14, 4), o, along, 5, api.Mixed}, {bx(-1, -5, 11, 5), o, along, 5, api.Mixed}, {bx(3, -6, 7, 6), o, along, 5, api.Mixed}, {bx(-4, -4, 4, 4), o, slant, 4, api.Mixed}, {bx(0, -2, 8, 8), o, slant, 5, api.Mixed},
		// The stroke is within the box, or the box is the smallest one around it, or the segment is a side or a diagonal of it.
		{bx(-20, -20, 30, 30), o, along, 5, api.Mixed}, {bx(-5, -5, 15, 5), o, along, 5, api.Mixed}, {bx(-5, -5, 13, 11), o, slant, 5, api.Mixed}, {bx(-20, -20, 30, 30), o, slant, 1, api.Mixed}, {bx(-20, 0, 30, 20), o, along, 5, api.Mixed}, {bx(0, 0, 10, 20), o, along, 5, api.Mixed}, {bx(0, 0, 8, 6), o, slant, 4, api.Mixed}, {bx(-far, -far, far, far), o, slant, 5, api.Mixed},
		// The segment crosses the box, all corners of which and both ends are far away; or it passes a corner.
		{bx(40, -30, 60, 30), o, pt(100, 0), 1, api.Mixed}, {bx(-30, 40, 30, 60), o, pt(0, 100), 5, api.Mixed}, {bx(0, 0, 100, 100), pt(-30, 40), pt(40, -30), 1, api.Mixed}, {bx(0, 0, 100, 100), pt(-30, 40), pt(70, 130), 1, api.Mixed}, {bx(0, 0, 100, 100), pt(-50, -20), pt(150, 130), 7, api.Mixed},
		{bx(0, 0, 100, 100), pt(-30, 23), pt(23, -30), 4, api.Out}, {bx(0, 0, 100, 100), pt(-30, 23), pt(23, -30), 5, api.Mixed}, {bx(0, 0, 100, 100), pt(-30, 30), pt(30, -30), 1, api.Mixed}, {bx(0, 0, 100, 100), pt(-31, 30), pt(30, -31), 1, api.Mixed}, {bx(0, 0, 100, 100), pt(-31, 29), pt(29, -31), 1, api.Out}, {bx(0, 0, 100, 100), pt(-31, 29), pt(29, -31), 2, api.Mixed},
		// Touching in one point only, or along one line.
		{bx(15, 0, 20, 9), o, along, 5, api.Mixed}, {bx(15, -9, 20, 9), o, along, 5, api.Mixed}, {bx(-9, -9, -5, 9), o, along, 5, api.Mixed}, {bx(13, 4, 20, 9), o, along, 5, api.Mixed}, {bx(-9, -9, -3, -4), o, along, 5, api.Mixed}, {bx(10, 5, 20, 9), o, along, 5, api.Mixed}, {bx(3, 5, 7, 9), o, along, 5, api.Mixed}, {bx(-9, 5, 20, 9), o, along, 5, api.Mixed}, {bx(3, -9, 7, -5), o, along, 5, api.Mixed},
		{bx(-20, 7, 1, 20), o, slant, 5, api.Mixed}, {bx(-20, 4, -3, 20), o, slant, 5, api.Mixed}, {bx(7, -20, 20, -1), o, slant, 5, api.Mixed}, {bx(11, -20, 20, 2), o, slant, 5, api.Mixed}, {bx(13, -20, 20, 20), o, slant, 5, api.Mixed}, {bx(-20, -20, 20, -5), o, slant, 5, api.Mixed}, {bx(12, 9, 20, 20), o, slant, 5, api.Mixed}, {bx(-20, -20, -4, -3), o, slant, 5, api.Mixed},
		// Just beside it.
		{bx(16, -9, 20, 9), o, along, 5, api.Out}, {bx(-9, -9, -6, 9), o, along, 5, api.Out}, {bx(14, 4, 20, 9), o, along, 5, api.Out}, {bx(13, 5, 20, 9), o, along, 5, api.Out}, {bx(-9, -9, -3, -5), o, along, 5, api.Out}, {bx(-9, 6, 20, 9), o, along, 5, api.Out}, {bx(3, -9, 7, -6), o, along, 5, api.Out}, {bx(11, 5, 20, 9), o, along, 5, api.Out},
		{bx(-20, 7, 0, 20), o, slant, 5, api.Out}, {bx(-20, 8, 1, 20), o, slant, 5, api.Out}, {bx(8, -20, 20, -1), o, slant, 5, api.Out}, {bx(7, -20, 20, -2), o, slant, 5, api.Out}, {bx(14, -20, 20, 20), o, slant, 5, api.Out}, {bx(-20, -20, 20, -6), o, slant, 5, api.Out}, {bx(13, 9, 20, 20), o, slant, 5, api.Out}, {bx(12, 10, 20, 20), o, slant, 5, api.Out}, {bx(-20, -20, -5, -3), o, slant, 5, api.Out}, {bx(-20, 12, 20, 20), o, slant, 5, api.Out},
		// Beside it, and on the line through it.
		{bx(30, -1, 40, 1), o, along, 5, api.Out}, {bx(16, 12, 20, 15), o, slant, 5, api.Out}, {bx(-20, -20, -8, -6), o, slant, 5, api.Out}, {bx(20, 20, 30, 30), o, along, 5, api.Out}, {bx(-far, -far, -far, -far), o, slant, 5, api.Out},
		// Boxes of one point.
		{bx(5, 0, 5, 0), o, along, 5, api.In}, {bx(5, 5, 5, 5), o, along, 5, api.In}, {bx(5, 6, 5, 6), o, along, 5, api.Out}, {bx(15, 0, 15, 0), o, along, 5, api.In}, {bx(16, 0, 16, 0), o, along, 5, api.Out}, {bx(1, 7, 1, 7), o, slant, 5, api.In}, {bx(0, 7, 0, 7), o, slant, 5, api.Out}, {bx(0, 0, 0, 0), o, slant, 1, api.In}, {bx(-3, 4, -3, 4), o, slant, 5, api.In}, {bx(-4, 4, -4, 4), o, slant, 5, api.Out},
		// Boxes of one line: on the segment, across it, along the edge, and just beside it.
		{bx(0, 0, 10, 0), o, along, 1, api.In}, {bx(0, 5, 10, 5), o, along, 5, api.In}, {bx(0, 5, 11, 5), o, along, 5, api.Mixed}, {bx(11, 5, 20, 5), o, along, 5, api.Out}, {bx(5, -5, 5, 5), o, along, 5, api.In}, {bx(5, -5, 5, 6), o, along, 5, api.Mixed}, {bx(5, -9, 5, 9), o, along, 5, api.Mixed}, {bx(-9, 6, 20, 6), o, along, 5, api.Out}, {bx(15, -9, 15, 9), o, along, 5, api.Mixed}, {bx(16, -9, 16, 9), o, along, 5, api.Out}, {bx(-50, 3, 50, 3), o, slant, 1, api.Mixed}, {bx(3, -50, 3, 50), o, slant, 1, api.Mixed}, {bx(1, -1, 1, 7), o, slant, 5, api.In}, {bx(-50, -6, 50, -6), o, slant, 5, api.Out}, {bx(-50, -5, 50, -5), o, slant, 5, api.Mixed},
		// Segments of one point.
		{bx(-3, -4, 3, 4), o, o, 5, api.In}, {bx(-3, -4, 4, 4), o, o, 5, api.Mixed}, {bx(-9, -9, 9, 9), o, o, 5, api.Mixed}, {bx(3, 4, 9, 9), o, o, 5, api.Mixed}, {bx(4, 4, 9, 9), o, o, 5, api.Out}, {bx(5, -9, 9, 9), o, o, 5, api.Mixed}, {bx(6, -9, 9, 9), o, o, 5, api.Out}, {bx(8, 6, 8, 6), slant, slant, 1, api.In}, {bx(9, 7, 10, 8), slant, slant, 1, api.Out}, {bx(7, 6, 9, 6), slant, slant, 1, api.In},
		// Radius 1.
		{bx(0, -1, 10, 1), o, along, 1, api.In}, {bx(-1, -1, 10, 1), o, along, 1, api.Mixed}, {bx(11, 0, 12, 5), o, along, 1, api.Mixed}, {bx(11, 1, 12, 5), o, along, 1, api.Out}, {bx(0, 0, 1, 1), o, pt(1, 1), 1, api.In}, {bx(0, 0, 2, 2), o, pt(2, 2), 1, api.Mixed}, {bx(0, 0, 1, 1), o, pt(2, 2), 1, api.In}, {bx(2, 0, 9, 0), o, pt(2, 2), 1, api.Out},
	}
	for _, x := range cases {
		checkClass(t, x.b, x.a, x.c, x.r, x.want)
	}
}

// 7.1, 7.2: boxes at either Far, and across and beside segments that are as long as they can be.
func TestClassAtFar(t *testing.T) {
	low, high, left, right := pt(-far, -far), pt(far, far), pt(-far, 0), pt(far, 0)
	all := bx(-far, -far, far, far)
	cases := []struct {
		b    api.Box
		a, c api.Pt
		r    int64
		want int
	}{
		{all, left, right, far, api.In}, {all, left, right, far - 1, api.Mixed}, {bx(-far, 1-far, far, far-1), left, right, far - 1, api.In}, {bx(-far, far, far, far), left, right, far - 1, api.Out}, {bx(-far, far, far, far), left, right, far, api.In}, {bx(-far, far-1, far, far), left, right, far - 1, api.Mixed}, {all, pt(1-far, 0), right, far, api.Mixed}, {all, left, right, 1, api.Mixed}, {bx(-far, 0, far, 0), left, right, 1, api.In}, {bx(-far, -1, far, 1), left, right, 1, api.In}, {bx(-far, -2, far, 1), left, right, 1, api.Mixed}, {bx(-far, 2, far, far), left, right, 1, api.Out},
		{all, low, high, 759250125, api.In}, {all, low, high, 759250124, api.Mixed}, {all, low, high, 1, api.Mixed}, {bx(0, 0, 0, 0), low, high, 1, api.In}, {bx(0, 1, 0, far), low, high, 1, api.Mixed}, {bx(-far, 2, 0, far), low, high, 1, api.Out}, {bx(-far, 1, 0, far), low, high, 1, api.Mixed}, {bx(-far, 1414214, 0, far), low, high, 1000000, api.Out}, {bx(-far, 1414213, 0, far), low, high, 1000000, api.Mixed}, {bx(0, 0, 707106, 707106), low, high, 500000, api.In}, {bx(0, 0, 707107, 707107), low, high, 500000, api.Mixed},
		{bx(-far, far, -far, far), low, high, 759250125, api.In}, {bx(-far, far, -far, far), low, high, 759250124, api.Out}, {bx(-far, far-1, 1-far, far), low, high, 759250124, api.Mixed},
		{bx(-far, -far, far, far), high, high, across, api.In}, {bx(-far, -far, far, far), high, high, across - 1, api.Mixed}, {bx(-far, -far, -far, -far), high, high, across - 1, api.Out}, {bx(-far, -far, 1-far, 1-far), high, high, across - 1, api.Mixed}, {bx(far-1, far-1, far, far), high, high, 1, api.Mixed}, {bx(far-1, far-1, far-1, far-1), high, high, 1, api.Out}, {bx(far-1, far, far, far), high, high, 1, api.In},
		// Only the segment meets the box: no corner and no end is near.
		{bx(-far/2, -far/2, far/2, far/2), left, pt(far, 1), 1, api.Mixed}, {bx(-far/2, -far/2, far/2, far/2), pt(-far, 0), pt(0, far), 1, api.Mixed}, {bx(-far/2, -far/2, far/2, far/2), pt(-far, 0), pt(0, far), far / 4, api.Mixed}, {bx(-far/2, -far/2, far/2, far/2), pt(-far, 2), pt(-1, far), 1, api.Out}, {bx(-far/2, -far/2, far/2, far/2), pt(-far, 2), pt(-1, far), 2, api.Mixed}, {bx(-far, 1-far, far-1, far), low, pt(far, far-1), 1, api.Mixed},
	}
	for _, x := range cases {
		checkClass(t, x.b, x.a, x.c, x.r, x.want)
	}
}

// 7.1: a stroke is empty if its radius is below 1, whatever the square of its radius.
func TestNoRadius(t *testing.T) {
	ends := []api.Pt{pt(0, 0), pt(3, -4), pt(far, far), pt(-far, far)}
	for _, r := range sample.NoRadii() {
		for _, a := range ends {
			for _, c := range ends {
				for _, p := range []api.Pt{pt(0, 0), a, c, pt((a.X+c.X)/2, (a.Y+c.Y)/2)} {
					checkHas(t, p, a, c, r, false)
					checkClass(t, sample.Dot(p), a, c, r, api.Out)
					checkClass(t, sample.Between(p, a), a, c, r, api.Out)
				}
				checkClass(t, bx(-far, -far, far, far), a, c, r, api.Out)
				checkClass(t, bx(0, -4, 3, 0), a, c, r, api.Out)
			}
		}
	}
}

// 7.1: radii have no upper bound, and the greatest ones reach every point.
func TestGreatRadius(t *testing.T) {
	list := sample.Scattered()
	for i, a := range list {
		for _, c := range list[:i+1] {
			for _, p := range list {
				b := sample.Between(p, pt(1, 1))
				dot, nearest, most := squareOf(sample.Dot(p), a, c), squareOf(b, a, c), farthest(b, a, c)
				for _, r := range sample.GreatRadii() {
					checkHas(t, p, a, c, r, dot.within(r))
					checkClass(t, b, a, c, r, classOf(nearest, most, r))
				}
			}
		}
	}
}

// 7.1: Has for all points in and around small strokes in all directions.
func TestHasEverywhere(t *testing.T) {
	points := sample.Points(bx(-7, -7, 11, 11))
	sample.Segments(bx(0, 0, 1, 1), bx(-3, -3, 5, 5), func(a, c api.Pt) {
		for r := int64(-2); r <= 6; r++ {
			for _, p := range points {
				checkHas(t, p, a, c, r, hasOf(p, a, c, r))
			}
		}
	})
}

// checkBoxes checks Class for the boxes, which lie in the area, against all of their whole points; a, c and the boxes are moved by by. No other point changes the class: the corners are whole, and so are the ends and the points of a box that are nearest to them; and what the segment has within a box is less than 1 away from a whole point of it.
func checkBoxes(t *testing.T, area api.Box, list []sample.Filled, a, c, by api.Pt, r int64) {
	t.Helper()
	inside := map[api.Pt]int{}
	for _, p := range sample.Points(area) {
		if hasOf(p, a, c, r) {
			inside[p] = 1
		}
	}
	a, c = sample.Moved(a, by.X, by.Y), sample.Moved(c, by.X, by.Y)
	for _, f := range list {
		in := 0
		for _, p := range f.Points {
			in += inside[p]
		}
		want := api.Mixed
		if in == 0 {
			want = api.Out
		} else if in == len(f.Points) {
			want = api.In
		}
		checkClass(t, bx(f.Box.X0+by.X, f.Box.Y0+by.Y, f.Box.X1+by.X, f.Box.Y1+by.Y), a, c, r, want)
	}
}

// 7.1, 7.2: all small boxes in, across, beside and around small strokes in all directions.
func TestClassEverywhere(t *testing.T) {
	list := sample.FilledBoxes(-2, 2)
	sample.Segments(bx(-4, -4, 1, 1), bx(-4, -4, 4, 4), func(a, c api.Pt) {
		for r := int64(0); r <= 4; r++ {
			checkBoxes(t, bx(-2, -2, 2, 2), list, a, c, pt(0, 0), r)
		}
	})
}

// 7.2: small boxes and strokes at either Far.
func TestEverywhereAtFar(t *testing.T) {
	list := sample.FilledBoxes(0, 3)
	for _, x := range []int64{-far, far - 3} {
		for _, y := range []int64{-far, far - 3} {
			sample.Segments(bx(0, 0, 3, 3), bx(0, 0, 3, 3), func(a, c api.Pt) {
				for r := int64(0); r <= 3; r++ {
					checkBoxes(t, bx(0, 0, 3, 3), list, a, c, pt(x, y), r)
				}
			})
		}
	}
}

// 7.2: Out and In hold for points between the whole ones: those of a grid four times as fine, whose lengths are told in quarters.
func TestClassBetween(t *testing.T) {
	list := sample.Boxes(-1, 2)
	fine := sample.Points(bx(-4, -4, 8, 8))
	sample.Segments(bx(-3, -3, 1, 1), bx(-3, -3, 3, 3), func(a, c api.Pt) {
		for r := int64(1); r <= 3; r++ {
			inside := map[api.Pt]bool{}
			for _, p := range fine {
				inside[p] = hasOf(p, pt(4*a.X, 4*a.Y), pt(4*c.X, 4*c.Y), 4*r)
			}
			for _, b := range list {
				class := Class(b, a, c, r)
				for _, p := range sample.Points(bx(4*b.X0, 4*b.Y0, 4*b.X1, 4*b.Y1)) {
					if inside[p] && class == api.Out || !inside[p] && class == api.In {
						t.Fatalf("Class(%v, %v, %v, %d) = %d, but %v quarters: %v", b, a, c, r, class, p, inside[p])
					}
				}
			}
		}
	})
}

// 7.1: a stroke has all discs around points of its segment, here around those that divide it into 12 parts; lengths are told in twelfths.
func TestHasDiscs(t *testing.T) {
	const parts = 12
	disc := func(r int64) []api.Pt {
		var list []api.Pt
		for _, p := range sample.Points(bx(-parts*r, -parts*r, parts*r, parts*r)) {
			if p.X*p.X+p.Y*p.Y <= parts*parts*r*r {
				list = append(list, p)
			}
		}
		return list
	}
	sample.Segments(bx(0, 0, 0, 0), bx(-3, -3, 3, 3), func(a, c api.Pt) {
		for r := int64(1); r <= 2; r++ {
			for k := range int64(parts + 1) {
				for _, p := range disc(r) {
					checkHas(t, sample.Moved(p, k*c.X, k*c.Y), a, pt(parts*c.X, parts*c.Y), parts*r, true)
				}
			}
		}
	})
}

// 7.1, 7.2: boxes and segments of any size up to Far, and radii that just reach their nearest or farthest points, or don't.
func TestAnySize(t *testing.T) {
	random := rand.New(rand.NewSource(71))
	classes := [3]int{}
	for range 8000 {
		a, c := sample.Point(random.Int63n), sample.Point(random.Int63n)
		b := sample.Beside(random.Int63n, a, c)
		nearest, most, corner := squareOf(b, a, c), farthest(b, a, c), pt(b.X0, b.Y1)
		dot := squareOf(sample.Dot(corner), a, c)
		for _, root := range []int64{nearest.root(), most.root(), dot.root(), random.Int63n(1 << 31)} {
			for r := root - 1; r <= root+1; r++ {
				want := classOf(nearest, most, r)
				checkClass(t, b, a, c, r, want)
				checkHas(t, corner, a, c, r, dot.within(r))
				classes[want]++
			}
		}
		if t.Failed() {
			t.FailNow()
		}
	}
	if min(classes[api.Out], classes[api.Mixed], classes[api.In]) < 10000 {
		t.Error("too few of a class:", classes)
	}
}

// 7.1, 7.2: points at a distance of exactly r from the ends and the middle of a segment, across it, of any size: each of them just fails with a radius less by 1, or one step farther out. The box that lies beyond such a point touches the stroke in it alone.
func TestExactlyBeside(t *testing.T) {
	random := rand.New(rand.NewSource(72))
	for range 20000 {
		e := sample.AnySlant(random.Int63n)
		for _, side := range []int64{-1, 1} {
			nx, ny := side*e.Normal.X, side*e.Normal.Y
			sx, sy := sample.Sign(nx), sample.Sign(ny)
			for _, foot := range []api.Pt{e.A, e.C, pt(e.A.X+e.Along.X/2, e.A.Y+e.Along.Y/2)} {
				if (foot.X-e.A.X)*e.Along.Y != (foot.Y-e.A.Y)*e.Along.X {
					continue
				}
				p := sample.Moved(foot, nx, ny)
				checkHas(t, p, e.A, e.C, e.R, true)
				checkHas(t, p, e.A, e.C, e.R-1, false)
				checkHas(t, sample.Moved(p, sx, 0), e.A, e.C, e.R, false)
				checkHas(t, sample.Moved(p, 0, sy), e.A, e.C, e.R, false)
				beyond := sample.Between(p, pt(sx*far, sy*far))
				step := sample.Between(sample.Moved(p, sx, 0), pt(sx*far, sy*far))
				checkClass(t, beyond, e.A, e.C, e.R, api.Mixed)
				checkClass(t, beyond, e.A, e.C, e.R-1, api.Out)
				checkClass(t, step, e.A, e.C, e.R, api.Out)
				checkClass(t, step, e.A, e.C, e.R+1, api.Mixed)
			}
		}
		if t.Failed() {
			t.FailNow()
		}
	}
}

// 7.1, 7.2: points at a distance of exactly r from an end of a segment, beyond it; and boxes around an end all of whose corners are such points, two of them on the edges beside the segment.
func TestExactlyBeyond(t *testing.T) {
	random := rand.New(rand.NewSource(73))
	for range 20000 {
		e := sample.AnySlant(random.Int63n)
		// Straight back from a, and across the segment, mirrored so that it points back.
		back := []api.Pt{pt(-e.Normal.Y, e.Normal.X), pt(e.Normal.Y, -e.Normal.X), pt(e.Normal.X, -e.Normal.Y), pt(-e.Normal.X, e.Normal.Y)}
		for _, v := range back {
			if e.Along != (api.Pt{}) && (v.X*e.Along.X+v.Y*e.Along.Y) >= 0 {
				continue
			}
			p := sample.Moved(e.A, v.X, v.Y)
			checkHas(t, p, e.A, e.C, e.R, true)
			checkHas(t, p, e.A, e.C, e.R-1, false)
			if sx := sample.Sign(v.X); e.Along.X*sx <= 0 {
				checkHas(t, sample.Moved(p, sx, 0), e.A, e.C, e.R, false)
			}
			if sy := sample.Sign(v.Y); e.Along.Y*sy <= 0 {
				checkHas(t, sample.Moved(p, 0, sy), e.A, e.C, e.R, false)
			}
		}
		x, y := max(e.Normal.X, -e.Normal.X), max(e.Normal.Y, -e.Normal.Y)
		for _, end := range []api.Pt{e.A, e.C} {
			b := bx(end.X-x, end.Y-y, end.X+x, end.Y+y)
			checkClass(t, b, e.A, e.C, e.R, api.In)
			checkClass(t, b, e.A, e.C, e.R-1, api.Mixed)
			checkClass(t, bx(b.X0-1, b.Y0, b.X1+1, b.Y1), e.A, e.C, e.R, api.Mixed)
			checkClass(t, bx(b.X0, b.Y0-1, b.X1, b.Y1+1), e.A, e.C, e.R, api.Mixed)
		}
		if t.Failed() {
			t.FailNow()
		}
	}
}

// 7.2: a box whose ends are exchanged has no point, and so none of any stroke.
func TestExchangedEnds(t *testing.T) {
	for _, b := range sample.Backward() {
		for _, c := range []api.Pt{pt(0, 0), pt(9, 0), pt(-3, 7), pt(far, far)} {
			for _, r := range []int64{0, 1, 2, 5, far, across, math.MaxInt64} {
				checkClass(t, b, pt(0, 0), c, r, api.Out)
			}
		}
	}
}

// 7.3: no call panics, whatever the order and the size of the numbers.
func TestNoPanic(t *testing.T) {
	sample.Wild(rand.New(rand.NewSource(74)).Int63n, func(b api.Box, p [4]api.Pt, r int64) {
		Has(p[0], p[1], p[2], r)
		if class := Class(b, p[1], p[2], r); class != api.Out && class != api.Mixed && class != api.In {
			t.Fatal("class", class)
		}
	})
}
