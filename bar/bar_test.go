package bar

import (
	"math"
	"math/big"
	"math/rand"
	"testing"

	"heliograph/api"
	"heliograph/sample"
)

const far = int64(api.Far)

func bx(x0, y0, x1, y1 int64) api.Box { return api.Box{X0: x0, Y0: y0, X1: x1, Y1: y1} }

func pt(x, y int64) api.Pt { return api.Pt{X: x, Y: y} }

// checkHas checks Has, in both orders of the ends.
func checkHas(t *testing.T, p, a, c api.Pt, h int64, want bool) {
	t.Helper()
	if there, back := Has(p, a, c, h), Has(p, c, a, h); there != want || back != want {
		t.Errorf("Has(%v, %v, %v, %d) = %v, and %v with the ends exchanged, want %v", p, a, c, h, there, back, want)
	}
}

// checkClass checks Class, in both orders of the ends.
func checkClass(t *testing.T, b api.Box, a, c api.Pt, h int64, want int) {
	t.Helper()
	if there, back := Class(b, a, c, h), Class(b, c, a, h); there != want || back != want {
		t.Errorf("Class(%v, %v, %v, %d) = %d, and %d with the ends exchanged, want %d", b, a, c, h, there, back, want)
	}
}

// The four sides of a bar, as bits.
const (
	ahead = 1 << iota
	after
	above
	below
	all = 1<<iota - 1
)

// sidesOf is 8.1 for small numbers: beyond which sides p lies. Lengths are told in parts of the segment, of which there are as many as its length squared. A bar without a point has all points beyond all of its sides.
func sidesOf(p, a, c api.Pt, h int64) int {
	x, y := c.X-a.X, c.Y-a.Y
	parts := x*x + y*y
	foot := (p.X-a.X)*x + (p.Y-a.Y)*y
	u, v := parts*(p.X-a.X)-foot*x, parts*(p.Y-a.Y)-foot*y
	if parts == 0 || h < 1 {
		return all
	}
	sides := 0
	if foot < 0 {
		sides |= ahead
	}
	if foot > parts {
		sides |= after
	}
	if u*u+v*v <= h*h*parts*parts {
		return sides
	}
	if v*x > u*y {
		return sides | above
	}
	return sides | below
}

// place is where a point lies: its foot on the line through the segment and its distance from the line, squared, both in parts as those of sidesOf, and at which side of the line it is.
type place struct {
	foot, square, parts *big.Int
	side                int
}

// placeOf is the place of p beside a segment of any size.
func placeOf(p, a, c api.Pt) place {
	x, y, u, v := big.NewInt(c.X-a.X), big.NewInt(c.Y-a.Y), big.NewInt(p.X-a.X), big.NewInt(p.Y-a.Y)
	dot := func(a, b, c, d *big.Int) *big.Int {
		first, second := new(big.Int).Mul(a, b), new(big.Int).Mul(c, d)
		return first.Add(first, second)
	}
	parts, foot := dot(x, x, y, y), dot(u, x, v, y)
	minus := new(big.Int).Neg(foot)
	u, v = dot(parts, u, minus, x), dot(parts, v, minus, y)
	return place{foot, dot(u, u, v, v), parts, new(big.Int).Mul(v, x).Cmp(new(big.Int).Mul(u, y))}
}

// sides is as sidesOf.
func (l place) sides(h int64) int {
	if l.parts.Sign() == 0 || h < 1 {
		return all
	}
	sides := 0
	if l.foot.Sign() < 0 {
		sides |= ahead
	}
	if l.foot.Cmp(l.parts) > 0 {
		sides |= after
	}
	most := new(big.Int).Mul(big.NewInt(h), l.parts)
	if l.square.Cmp(most.Mul(most, most)) <= 0 {
		return sides
	}
	if l.side > 0 {
		return sides | above
	}
	return sides | below
}

// root is the distance from the line, rounded down.
func (l place) root() int64 {
	if l.parts.Sign() == 0 {
		return 0
	}
	length := new(big.Int).Sqrt(l.square)
	return length.Div(length, l.parts).Int64()
}

// corners are the places of the corners of b.
func corners(b api.Box, a, c api.Pt) []place {
	return []place{placeOf(pt(b.X0, b.Y0), a, c), placeOf(pt(b.X1, b.Y0), a, c), placeOf(pt(b.X0, b.Y1), a, c), placeOf(pt(b.X1, b.Y1), a, c)}
}

// classOf is 8.1: the class of a box with such corners.
func classOf(corners []place, h int64) int {
	some, every := 0, all
	for _, l := range corners {
		some |= l.sides(h)
		every &= l.sides(h)
	}
	if every != 0 {
		return api.Out
	}
	if some == 0 {
		return api.In
	}
	return api.Mixed
}

// 8.1: points within a bar, on its edges and corners, and just beyond them.
func TestHas(t *testing.T) {
	o, along, up, slant := pt(0, 0), pt(10, 0), pt(0, 10), pt(8, 6)
	cases := []struct {
		p, a, c api.Pt
		h       int64
		want    bool
	}{
		// Along an axis: within, at the sides, at the ends, and around the corners.
		{pt(5, 0), o, along, 5, true}, {pt(5, 5), o, along, 5, true}, {pt(5, -5), o, along, 5, true}, {pt(5, 6), o, along, 5, false}, {pt(5, -6), o, along, 5, false},
		{o, o, along, 5, true}, {along, o, along, 5, true}, {pt(-1, 0), o, along, 5, false}, {pt(11, 0), o, along, 5, false}, {pt(0, 3), o, along, 5, true}, {pt(10, -3), o, along, 5, true}, {pt(-1, 3), o, along, 5, false}, {pt(11, -3), o, along, 5, false},
		{pt(0, 5), o, along, 5, true}, {pt(0, -5), o, along, 5, true}, {pt(10, 5), o, along, 5, true}, {pt(10, -5), o, along, 5, true}, {pt(-1, 5), o, along, 5, false}, {pt(0, 6), o, along, 5, false}, {pt(0, -6), o, along, 5, false}, {pt(-1, -5), o, along, 5, false}, {pt(11, 5), o, along, 5, false}, {pt(10, 6), o, along, 5, false}, {pt(10, -6), o, along, 5, false}, {pt(11, -5), o, along, 5, false},
		{pt(5, 5), o, up, 5, true}, {pt(-5, 5), o, up, 5, true}, {pt(6, 5), o, up, 5, false}, {pt(-6, 5), o, up, 5, false}, {pt(0, 10), o, up, 5, true}, {pt(0, 11), o, up, 5, false}, {pt(0, -1), o, up, 5, false}, {pt(5, 10), o, up, 5, true}, {pt(5, 11), o, up, 5, false}, {pt(6, 10), o, up, 5, false}, {pt(-5, 0), o, up, 5, true}, {pt(-5, -1), o, up, 5, false}, {pt(-6, 0), o, up, 5, false},
		// Slanted: (-3, 4) is across it, with length 5. Within, and beside the sides.
		{pt(4, 3), o, slant, 5, true}, {pt(1, 7), o, slant, 5, true}, {pt(7, -1), o, slant, 5, true}, {pt(0, 7), o, slant, 5, false}, {pt(1, 8), o, slant, 5, false}, {pt(8, -1), o, slant, 5, false}, {pt(7, -2), o, slant, 5, false}, {pt(1, 7), o, slant, 4, false}, {pt(7, -1), o, slant, 4, false},
		// Its corners.
		{pt(-3, 4), o, slant, 5, true}, {pt(3, -4), o, slant, 5, true}, {pt(5, 10), o, slant, 5, true}, {pt(11, 2), o, slant, 5, true}, {pt(-4, 4), o, slant, 5, false}, {pt(-3, 3), o, slant, 5, false}, {pt(-3, 5), o, slant, 5, false}, {pt(-2, 4), o, slant, 5, true}, {pt(3, -5), o, slant, 5, false}, {pt(2, -4), o, slant, 5, false}, {pt(4, -4), o, slant, 5, false}, {pt(3, -3), o, slant, 5, true}, {pt(4, 10), o, slant, 5, false}, {pt(6, 10), o, slant, 5, false}, {pt(5, 11), o, slant, 5, false}, {pt(5, 9), o, slant, 5, true}, {pt(12, 2), o, slant, 5, false}, {pt(11, 1), o, slant, 5, false}, {pt(11, 3), o, slant, 5, false}, {pt(10, 2), o, slant, 5, true}, {pt(-3, 4), o, slant, 4, false}, {pt(11, 2), o, slant, 4, false},
		// The lines through its ends.
		{o, o, slant, 1, true}, {slant, o, slant, 1, true}, {pt(-1, 0), o, slant, 5, false}, {pt(0, -1), o, slant, 5, false}, {pt(1, -1), o, slant, 5, true}, {pt(-1, 1), o, slant, 5, false}, {pt(-1, 2), o, slant, 5, true}, {pt(2, -3), o, slant, 5, false}, {pt(9, 6), o, slant, 5, false}, {pt(8, 7), o, slant, 5, false}, {pt(9, 4), o, slant, 5, true}, {pt(9, 5), o, slant, 5, false}, {pt(7, 7), o, slant, 5, true}, {pt(7, 8), o, slant, 5, false}, {pt(-6, 8), o, slant, 10, true}, {pt(-6, 8), o, slant, 9, false}, {pt(-6, 7), o, slant, 10, false}, {pt(14, -2), o, slant, 10, true}, {pt(14, -1), o, slant, 10, false}, {pt(15, -2), o, slant, 10, false}, {pt(14, -2), o, slant, 9, false},
		// On the line through the segment, far beyond its ends.
		{pt(16, 12), o, slant, 5, false}, {pt(-8, -6), o, slant, 5, false}, {pt(-4, -3), o, slant, 5, false}, {pt(12, 9), o, slant, 50, false}, {pt(100, 0), o, along, 500, false}, {pt(-100, 0), o, along, 500, false},
		// Short segments, with h of 1 and great ones.
		{o, o, pt(1, 0), 1, true}, {pt(1, 1), o, pt(1, 0), 1, true}, {pt(0, -1), o, pt(1, 0), 1, true}, {pt(2, 0), o, pt(1, 0), 1, false}, {pt(-1, 0), o, pt(1, 0), 1, false}, {pt(0, 2), o, pt(1, 0), 1, false}, {pt(1, 0), o, pt(1, 1), 1, true}, {pt(0, 1), o, pt(1, 1), 1, true}, {pt(1, 1), o, pt(1, 1), 1, true}, {pt(1, -1), o, pt(1, 1), 1, false}, {pt(1, -1), o, pt(1, 1), 2, true}, {pt(2, 0), o, pt(1, 1), 1, false}, {pt(2, 0), o, pt(1, 1), 2, true}, {pt(2, 1), o, pt(1, 1), 9, false}, {pt(0, -1), o, pt(1, 1), 9, false}, {pt(5, -5), o, pt(1, 1), 8, true}, {pt(5, -5), o, pt(1, 1), 7, false}, {pt(5, -6), o, pt(1, 1), 9, false},
		{pt(0, 100), o, pt(1, 0), 100, true}, {pt(1, -100), o, pt(1, 0), 100, true}, {pt(1, 101), o, pt(1, 0), 100, false}, {pt(2, 0), o, pt(1, 0), 100, false}, {pt(-1, 100), o, pt(1, 0), 100, false},
		{pt(3, 1), o, pt(5, 5), 1, false}, {pt(3, 2), o, pt(5, 5), 1, true}, {pt(3, 1), o, pt(5, 5), 2, true},
	}
	for _, x := range cases {
		checkHas(t, x.p, x.a, x.c, x.h, x.want)
	}
}

// 8.1: ends, points and widths up to Far, points beside the longest segments by the least distances, and beyond the lines through their ends by even less.
func TestHasAtFar(t *testing.T) {
	low, high, left, right := pt(-far, -far), pt(far, far), pt(-far, 0), pt(far, 0)
	cases := []struct {
		p, a, c api.Pt
		h       int64
		want    bool
	}{
		{pt(0, 0), left, right, 1, true}, {pt(0, 1), left, right, 1, true}, {pt(0, 2), left, right, 1, false}, {pt(far, 1), left, right, 1, true}, {pt(-far, -1), left, right, 1, true}, {pt(far, -2), left, right, 1, false}, {high, left, right, far, true}, {low, left, right, far, true}, {high, left, right, far - 1, false}, {pt(0, -far), left, right, far, true}, {pt(1, -far), left, right, far - 1, false},
		{pt(far, 0), left, pt(far-1, 0), far, false}, {pt(-far, 0), pt(1-far, 0), right, far, false}, {high, low, pt(far, -far), 1 << 30, true}, {high, low, pt(far, -far), 1<<30 - 1, false}, {high, low, pt(far-1, -far), 1 << 30, false},
		// The diagonal: its neighbours are at distances of the root of n^2 / 2.
		{pt(0, 0), low, high, 1, true}, {low, low, high, 1, true}, {high, low, high, 1, true}, {pt(0, 1), low, high, 1, true}, {pt(1, 0), low, high, 1, true}, {pt(0, 2), low, high, 1, false}, {pt(2, 0), low, high, 1, false}, {pt(0, 2), low, high, 2, true}, {pt(0, 3), low, high, 2, false}, {pt(far-1, far), low, high, 1, true}, {pt(-far, 2-far), low, high, 1, false}, {pt(0, 1414213), low, high, 1000000, true}, {pt(0, 1414214), low, high, 1000000, false}, {pt(1414213, 0), low, high, 1000000, true}, {pt(1414214, 0), low, high, 1000000, false},
		{pt(-far, far), low, high, 759250125, true}, {pt(-far, far), low, high, 759250124, false}, {pt(far, -far), low, high, 759250125, true}, {pt(far, -far), low, high, 759250124, false},
		{pt(-far, far), pt(0, 0), high, 759250125, true}, {pt(-far, far), pt(0, 0), high, 759250124, false}, {pt(-far, far-1), pt(0, 0), high, 1 << 30, false}, {pt(far, -far), pt(0, 0), high, 759250125, true}, {pt(far-1, -far), pt(0, 0), high, 1 << 30, false},
		// A direction without a common divisor: the point beside its middle is at a distance of nearly the root of 1 / 8.
		{pt(0, 0), low, pt(far, far-1), 1, true}, {pt(0, -1), low, pt(far, far-1), 1, true}, {pt(0, 1), low, pt(far, far-1), 1, false}, {pt(0, -2), low, pt(far, far-1), 1, false}, {pt(1, -1), low, pt(far, far-1), 2, true}, {high, low, pt(far, far-1), 2, false}, {pt(far-1, far), low, pt(far, far-1), 2, true}, {pt(far-1, far), low, pt(far, far-1), 1, false},
		// The points across from the ends, which the lines through them pass at less than a thousand-millionth of 1.
		{pt(2-far, -far), pt(1-far, 1-far), pt(far-1, far-2), 2, true}, {pt(-far, 2-far), pt(1-far, 1-far), pt(far-1, far-2), 2, false}, {pt(far-2, far-1), pt(1-far, 1-far), pt(far-1, far-2), 2, true}, {pt(far, far-3), pt(1-far, 1-far), pt(far-1, far-2), 2, false}, {pt(2-far, -far), pt(1-far, 1-far), pt(far-1, far-2), 1, false},
		// 3, 4 and 5 times the same: at a distance of exactly h from the line.
		{pt(-3<<26, 4<<26), pt(0, 0), pt(8<<26, 6<<26), 5 << 26, true}, {pt(-3<<26, 4<<26), pt(0, 0), pt(8<<26, 6<<26), 5<<26 - 1, false}, {pt(-3<<26, 4<<26-1), pt(0, 0), pt(8<<26, 6<<26), 5 << 26, false}, {pt(-3<<26-1, 4<<26), pt(0, 0), pt(8<<26, 6<<26), 5 << 26, false}, {pt(1<<26, 7<<26), pt(0, 0), pt(8<<26, 6<<26), 5 << 26, true}, {pt(1<<26-1, 7<<26), pt(0, 0), pt(8<<26, 6<<26), 5 << 26, false}, {pt(1<<26, 7<<26+1), pt(0, 0), pt(8<<26, 6<<26), 5 << 26, false}, {pt(1<<26, 7<<26), pt(0, 0), pt(8<<26, 6<<26), 5<<26 - 1, false}, {pt(-4<<26, -3<<26), pt(0, 0), pt(8<<26, 6<<26), 5 << 26, false},
		// The shortest segments at Far.
		{high, high, pt(far-1, far), 1, true}, {pt(far-1, far-1), high, pt(far-1, far), 1, true}, {pt(far-2, far), high, pt(far-1, far), 1 << 30, false}, {pt(far, -far), high, pt(far-1, far), 1 << 30, true}, {pt(far, -far), high, pt(far-1, far), 1<<30 - 1, false}, {pt(far, -far), low, pt(1-far, 1-far), 1 << 31, false}, {pt(1-far, -far), low, pt(1-far, 1-far), 1, true},
	}
	for _, x := range cases {
		checkHas(t, x.p, x.a, x.c, x.h, x.want)
	}
}

// 8.1: within, around, across, touching and beside a bar.
func TestClass(t *testing.T) {
	o, along, slant := pt(0, 0), pt(10, 0), pt(8, 6)
	cases := []struct {
		b    api.Box
		a, c api.Pt
		h    int64
		want int
	}{
		// Within the bar, with corners on its edges, and with one corner or one line beyond them.
		{bx(1, -1, 9, 1), o, along, 5, api.In}, {bx(0, -5, 10, 5), o, along, 5, api.In}, {bx(-1, -5, 10, 5), o, along, 5, api.Mixed}, {bx(0, -5, 11, 5), o, along, 5, api.Mixed}, {bx(0, -5, 10, 6), o, along, 5, api.Mixed}, {bx(0, -6, 10, 5), o, along, 5, api.Mixed},
		{bx(0, 0, 8, 6), o, slant, 5, api.In}, {bx(2, 1, 6, 5), o, slant, 5, api.In}, {bx(1, -1, 7, 7), o, slant, 5, api.In}, {bx(0, -1, 7, 7), o, slant, 5, api.Mixed}, {bx(1, -2, 7, 7), o, slant, 5, api.Mixed}, {bx(1, -1, 8, 7), o, slant, 5, api.Mixed}, {bx(1, -1, 7, 8), o, slant, 5, api.Mixed}, {bx(0, -1, 8, 6), o, slant, 5, api.Mixed}, {bx(0, 0, 9, 6), o, slant, 5, api.Mixed}, {bx(0, 0, 8, 7), o, slant, 5, api.Mixed}, {bx(-1, 0, 8, 6), o, slant, 5, api.Mixed},
		// All four corners outside, although all sides meet the bar.
		{bx(0, -1, 8, 7), o, slant, 5, api.Mixed}, {bx(0, -2, 8, 8), o, slant, 5, api.Mixed}, {bx(-1, -1, 9, 7), o, slant, 5, api.Mixed}, {bx(-1, -5, 11, 5), o, along, 5, api.Mixed}, {bx(3, -6, 7, 6), o, along, 5, api.Mixed},
		// The bar is within the box, or the box is the smallest one around it, or the segment is a side or a diagonal of it.
		{bx(-20, -20, 30, 30), o, along, 5, api.Mixed}, {bx(-50, -50, 50, 50), o, slant, 5, api.Mixed}, {bx(-3, -4, 11, 10), o, slant, 5, api.Mixed}, {bx(-20, -20, 30, 30), o, slant, 1, api.Mixed}, {bx(-20, 0, 30, 20), o, along, 5, api.Mixed}, {bx(0, 0, 10, 20), o, along, 5, api.Mixed}, {bx(0, 0, 8, 6), o, slant, 4, api.Mixed}, {bx(-far, -far, far, far), o, slant, 5, api.Mixed},
		// The bar crosses the box.
		{bx(40, -30, 60, 30), o, pt(100, 0), 1, api.Mixed}, {bx(-30, 40, 30, 60), o, pt(0, 100), 5, api.Mixed}, {bx(0, 0, 100, 100), pt(-30, 40), pt(40, -30), 1, api.Mixed}, {bx(0, 0, 100, 100), pt(-50, -20), pt(150, 130), 7, api.Mixed}, {bx(0, 0, 100, 100), pt(-30, 23), pt(23, -30), 4, api.Out}, {bx(0, 0, 100, 100), pt(-30, 23), pt(23, -30), 5, api.Mixed},
		// Beyond each of the four sides, along an axis: touching a corner or a line of it, and just beside it.
		{bx(-9, 5, 20, 9), o, along, 5, api.Mixed}, {bx(-9, 6, 20, 9), o, along, 5, api.Out}, {bx(3, 5, 7, 9), o, along, 5, api.Mixed}, {bx(3, 6, 7, 9), o, along, 5, api.Out}, {bx(-9, -9, 20, -5), o, along, 5, api.Mixed}, {bx(-9, -9, 20, -6), o, along, 5, api.Out}, {bx(-9, -9, 0, 9), o, along, 5, api.Mixed}, {bx(-9, -9, -1, 9), o, along, 5, api.Out}, {bx(10, -9, 20, 9), o, along, 5, api.Mixed}, {bx(11, -9, 20, 9), o, along, 5, api.Out},
		{bx(10, 5, 20, 9), o, along, 5, api.Mixed}, {bx(11, 5, 20, 9), o, along, 5, api.Out}, {bx(10, 6, 20, 9), o, along, 5, api.Out}, {bx(-9, -9, 0, -5), o, along, 5, api.Mixed}, {bx(-9, -9, -1, -5), o, along, 5, api.Out}, {bx(-9, -9, 0, -6), o, along, 5, api.Out},
		// Beyond each of the four sides of a slanted one: touching an edge in one point, or a corner, and just beside it.
		{bx(-20, 7, 1, 20), o, slant, 5, api.Mixed}, {bx(-20, 7, 0, 20), o, slant, 5, api.Out}, {bx(-20, 8, 1, 20), o, slant, 5, api.Out}, {bx(7, -20, 20, -1), o, slant, 5, api.Mixed}, {bx(8, -20, 20, -1), o, slant, 5, api.Out}, {bx(7, -20, 20, -2), o, slant, 5, api.Out}, {bx(-20, -20, 0, 0), o, slant, 5, api.Mixed}, {bx(-20, -20, -1, 0), o, slant, 5, api.Out}, {bx(-20, -20, 0, -1), o, slant, 5, api.Out}, {bx(8, 6, 20, 20), o, slant, 5, api.Mixed}, {bx(9, 6, 20, 20), o, slant, 5, api.Out}, {bx(8, 7, 20, 20), o, slant, 5, api.Out},
		{bx(-20, -20, -3, 4), o, slant, 5, api.Mixed}, {bx(-20, -20, -4, 4), o, slant, 5, api.Out}, {bx(-20, -20, -3, 3), o, slant, 5, api.Out}, {bx(-20, 4, -3, 20), o, slant, 5, api.Mixed}, {bx(-20, 5, -3, 20), o, slant, 5, api.Out}, {bx(-20, 4, -4, 20), o, slant, 5, api.Out}, {bx(-20, -20, 3, -4), o, slant, 5, api.Mixed}, {bx(-20, -20, 2, -4), o, slant, 5, api.Out}, {bx(-20, -20, 3, -5), o, slant, 5, api.Out}, {bx(3, -20, 20, -4), o, slant, 5, api.Mixed}, {bx(4, -20, 20, -4), o, slant, 5, api.Out}, {bx(3, -20, 20, -5), o, slant, 5, api.Out},
		{bx(11, 2, 20, 20), o, slant, 5, api.Mixed}, {bx(12, 2, 20, 20), o, slant, 5, api.Out}, {bx(11, 3, 20, 20), o, slant, 5, api.Out}, {bx(11, -20, 20, 2), o, slant, 5, api.Mixed}, {bx(12, -20, 20, 2), o, slant, 5, api.Out}, {bx(11, -20, 20, 1), o, slant, 5, api.Out}, {bx(5, 10, 20, 20), o, slant, 5, api.Mixed}, {bx(6, 10, 20, 20), o, slant, 5, api.Out}, {bx(5, 11, 20, 20), o, slant, 5, api.Out}, {bx(-20, 10, 5, 20), o, slant, 5, api.Mixed}, {bx(-20, 10, 4, 20), o, slant, 5, api.Out}, {bx(-20, 11, 5, 20), o, slant, 5, api.Out},
		// No point of the bar, but not all corners beyond the same side: left of it, below it, right of it, above it; and with all of them so.
		{bx(-5, 3, -4, 6), o, slant, 5, api.Mixed}, {bx(-5, 4, -4, 6), o, slant, 5, api.Out}, {bx(-5, 3, -4, 5), o, slant, 5, api.Out}, {bx(1, -6, 4, -5), o, slant, 5, api.Mixed}, {bx(2, -6, 4, -5), o, slant, 5, api.Out}, {bx(1, -6, 3, -5), o, slant, 5, api.Out}, {bx(12, 0, 13, 3), o, slant, 5, api.Mixed}, {bx(12, 1, 13, 3), o, slant, 5, api.Out}, {bx(12, 0, 13, 2), o, slant, 5, api.Out}, {bx(4, 11, 7, 12), o, slant, 5, api.Mixed}, {bx(5, 11, 7, 12), o, slant, 5, api.Out}, {bx(4, 11, 6, 12), o, slant, 5, api.Out},
		{bx(-90, -90, -4, 90), o, slant, 5, api.Mixed}, {bx(12, -90, 90, 90), o, slant, 5, api.Mixed}, {bx(-90, 11, 90, 90), o, slant, 5, api.Mixed}, {bx(-90, -90, 90, -5), o, slant, 5, api.Mixed}, {bx(60, -90, 90, 50), o, slant, 5, api.Mixed}, {bx(60, -40, 90, 50), o, slant, 5, api.Out},
		// Beside it, and on the line through it.
		{bx(30, -1, 40, 1), o, along, 5, api.Out}, {bx(16, 12, 20, 15), o, slant, 5, api.Out}, {bx(-20, -20, -8, -6), o, slant, 5, api.Out}, {bx(20, 20, 30, 30), o, along, 5, api.Out}, {bx(-far, -far, -far, -far), o, slant, 5, api.Out},
		// Boxes of one point.
		{bx(5, 0, 5, 0), o, along, 5, api.In}, {bx(5, 5, 5, 5), o, along, 5, api.In}, {bx(5, 6, 5, 6), o, along, 5, api.Out}, {bx(10, 0, 10, 0), o, along, 5, api.In}, {bx(11, 0, 11, 0), o, along, 5, api.Out}, {bx(1, 7, 1, 7), o, slant, 5, api.In}, {bx(0, 7, 0, 7), o, slant, 5, api.Out}, {bx(0, 0, 0, 0), o, slant, 1, api.In}, {bx(8, 6, 8, 6), o, slant, 1, api.In}, {bx(-3, 4, -3, 4), o, slant, 5, api.In}, {bx(-4, 4, -4, 4), o, slant, 5, api.Out},
		// Boxes of one line: on the segment, across it, along the edge, and just beside it.
		{bx(0, 0, 10, 0), o, along, 1, api.In}, {bx(0, 5, 10, 5), o, along, 5, api.In}, {bx(0, 5, 11, 5), o, along, 5, api.Mixed}, {bx(11, 5, 20, 5), o, along, 5, api.Out}, {bx(5, -5, 5, 5), o, along, 5, api.In}, {bx(5, -5, 5, 6), o, along, 5, api.Mixed}, {bx(5, -9, 5, 9), o, along, 5, api.Mixed}, {bx(-9, 6, 20, 6), o, along, 5, api.Out}, {bx(10, -9, 10, 9), o, along, 5, api.Mixed}, {bx(11, -9, 11, 9), o, along, 5, api.Out}, {bx(0, -5, 0, 5), o, along, 5, api.In}, {bx(-50, 3, 50, 3), o, slant, 1, api.Mixed}, {bx(3, -50, 3, 50), o, slant, 1, api.Mixed}, {bx(1, -1, 1, 7), o, slant, 5, api.In}, {bx(-4, -50, -4, 50), o, slant, 5, api.Mixed}, {bx(-50, 11, -7, 11), o, slant, 5, api.Out},
		// h of 1, and a short and broad one.
		{bx(0, -1, 10, 1), o, along, 1, api.In}, {bx(-1, -1, 10, 1), o, along, 1, api.Mixed}, {bx(0, -1, 10, 2), o, along, 1, api.Mixed}, {bx(0, 2, 10, 5), o, along, 1, api.Out}, {bx(0, 0, 1, 1), o, pt(1, 1), 1, api.In}, {bx(0, 0, 2, 2), o, pt(2, 2), 1, api.Mixed}, {bx(0, 0, 1, 1), o, pt(2, 2), 1, api.In}, {bx(2, 0, 9, 0), o, pt(2, 2), 1, api.Out}, {bx(0, -90, 1, 90), o, pt(1, 0), 90, api.In}, {bx(0, -90, 2, 90), o, pt(1, 0), 90, api.Mixed}, {bx(2, -90, 3, 90), o, pt(1, 0), 90, api.Out}, {bx(-90, -90, 90, 90), o, pt(1, 0), 90, api.Mixed},
	}
	for _, x := range cases {
		checkClass(t, x.b, x.a, x.c, x.h, x.want)
	}
}

// 8.1, 8.2: boxes at either Far, and across and beside bars that are as long as they can be.
func TestClassAtFar(t *testing.T) {
	low, high, left, right := pt(-far, -far), pt(far, far), pt(-far, 0), pt(far, 0)
	whole := bx(-far, -far, far, far)
	cases := []struct {
		b    api.Box
		a, c api.Pt
		h    int64
		want int
	}{
		{whole, left, right, far, api.In}, {whole, left, right, far - 1, api.Mixed}, {bx(-far, 1-far, far, far-1), left, right, far - 1, api.In}, {bx(-far, far, far, far), left, right, far - 1, api.Out}, {bx(-far, far, far, far), left, right, far, api.In}, {bx(-far, far-1, far, far), left, right, far - 1, api.Mixed}, {whole, pt(1-far, 0), right, far, api.Mixed}, {bx(-far, -far, -far, far), pt(1-far, 0), right, far, api.Out}, {whole, left, right, 1, api.Mixed}, {bx(-far, 0, far, 0), left, right, 1, api.In}, {bx(-far, -1, far, 1), left, right, 1, api.In}, {bx(-far, -2, far, 1), left, right, 1, api.Mixed}, {bx(-far, 2, far, far), left, right, 1, api.Out},
		{whole, low, pt(far, -far), 1 << 30, api.In}, {whole, low, pt(far, -far), 1<<30 - 1, api.Mixed}, {bx(-far, far, far, far), low, pt(far, -far), 1<<30 - 1, api.Out},
		// The corners of the greatest box on the diagonal are just within it, but the whole of it is not between the lines through the ends.
		{whole, low, high, 759250125, api.In}, {whole, low, high, 759250124, api.Mixed}, {whole, low, pt(far, far-1), 1 << 31, api.Mixed}, {bx(-far, -far, far, far-1), low, high, 759250124, api.Mixed}, {bx(-far, 1-far, far, far), pt(1-far, 1-far), high, 1 << 31, api.Mixed}, {whole, low, high, 1, api.Mixed}, {bx(0, 0, 0, 0), low, high, 1, api.In}, {bx(0, 1, 0, far), low, high, 1, api.Mixed}, {bx(-far, 2, 0, far), low, high, 1, api.Out}, {bx(-far, 1, 0, far), low, high, 1, api.Mixed}, {bx(-far, 1414214, 0, far), low, high, 1000000, api.Out}, {bx(-far, 1414213, 0, far), low, high, 1000000, api.Mixed}, {bx(0, 0, 707106, 707106), low, high, 500000, api.In}, {bx(0, 0, 707107, 707107), low, high, 500000, api.Mixed}, {bx(0, 0, 707107, 707107), low, high, 500001, api.In},
		{bx(-far, far, -far, far), low, high, 759250125, api.In}, {bx(-far, far, -far, far), low, high, 759250124, api.Out}, {bx(-far, far-1, 1-far, far), low, high, 759250124, api.Mixed},
		// Just beyond the line through an end.
		{bx(-far, -far, -far, far-1), pt(0, 0), high, 1 << 31, api.Out}, {bx(-far, -far, -far, far), pt(0, 0), high, 1 << 31, api.Mixed}, {bx(far, far, far, far), low, pt(far, far-1), 1 << 31, api.Out}, {bx(far-1, far, far, far), low, pt(far, far-1), 1 << 31, api.Mixed}, {bx(-far, 1-far, -far, 2-far), pt(1-far, 1-far), pt(far-1, far-2), 2, api.Out}, {bx(-far, 1-far, -far, 3-far), pt(1-far, 1-far), pt(far-1, far-2), 2, api.Mixed},
		// Only a thin bar meets the box, far from its ends.
		{bx(-far/2, -far/2, far/2, far/2), left, pt(far, 1), 1, api.Mixed}, {bx(-far/2, -far/2, far/2, far/2), pt(-far, 0), pt(0, far), 1, api.Mixed}, {bx(-far/2, -far/2, far/2, far/2), pt(-far, 2), pt(-1, far), 1, api.Out}, {bx(-far/2, -far/2, far/2, far/2), pt(-far, 2), pt(-1, far), 2, api.Mixed}, {bx(-far, 1-far, far-1, far), low, pt(far, far-1), 1, api.Mixed},
	}
	for _, x := range cases {
		checkClass(t, x.b, x.a, x.c, x.h, x.want)
	}
}

// 8.1: a bar is empty if its width is below 1, whatever the square of its width, or if a equals c, whatever its width.
func TestEmpty(t *testing.T) {
	ends := []api.Pt{pt(0, 0), pt(3, -4), pt(far, far), pt(-far, far)}
	check := func(a, c api.Pt, h int64) {
		for _, p := range []api.Pt{pt(0, 0), a, c, pt((a.X+c.X)/2, (a.Y+c.Y)/2), pt(a.X-1, a.Y)} {
			checkHas(t, p, a, c, h, false)
			checkClass(t, sample.Dot(p), a, c, h, api.Out)
			checkClass(t, sample.Between(p, a), a, c, h, api.Out)
		}
		checkClass(t, bx(-far, -far, far, far), a, c, h, api.Out)
		checkClass(t, bx(0, -4, 3, 0), a, c, h, api.Out)
	}
	for _, a := range ends {
		for _, c := range ends {
			for _, h := range sample.NoRadii() {
				check(a, c, h)
			}
		}
		for _, h := range append(sample.GreatRadii(), 1, 2, 5, 10) {
			check(a, a, h)
		}
	}
}

// 8.1: widths have no upper bound, and the greatest ones reach every point between the lines through the ends.
func TestGreatWidth(t *testing.T) {
	list := sample.Scattered()
	for i, a := range list {
		for _, c := range list[:i+1] {
			for _, p := range list {
				b, at := sample.Between(p, pt(1, 1)), placeOf(p, a, c)
				around := corners(b, a, c)
				for _, h := range sample.GreatRadii() {
					checkHas(t, p, a, c, h, at.sides(h) == 0)
					checkClass(t, b, a, c, h, classOf(around, h))
				}
			}
		}
	}
}

// 8.1: Has for all points in and around small bars in all directions.
func TestHasEverywhere(t *testing.T) {
	points := sample.Points(bx(-7, -7, 11, 11))
	sample.Segments(bx(0, 0, 1, 1), bx(-3, -3, 5, 5), func(a, c api.Pt) {
		for h := int64(-2); h <= 6; h++ {
			for _, p := range points {
				checkHas(t, p, a, c, h, sidesOf(p, a, c, h) == 0)
			}
		}
	})
}

// checkBoxes checks Class for the boxes, which lie in the area, against all of their whole points; a, c and the boxes are moved by by. It counts the classes, and under 3 the boxes that are Mixed although they have no such point in the bar.
func checkBoxes(t *testing.T, area api.Box, list []sample.Filled, a, c, by api.Pt, h int64, counts *[4]int) {
	t.Helper()
	sides := map[api.Pt]int{}
	for _, p := range sample.Points(area) {
		sides[p] = sidesOf(p, a, c, h)
	}
	a, c = sample.Moved(a, by.X, by.Y), sample.Moved(c, by.X, by.Y)
	for _, f := range list {
		in, every := 0, all
		for _, p := range f.Points {
			every &= sides[p]
			if sides[p] == 0 {
				in++
			}
		}
		// All corners lie beyond a side if and only if all points do.
		want := api.Mixed
		if every != 0 {
			want = api.Out
		} else if in == len(f.Points) {
			want = api.In
		}
		checkClass(t, bx(f.Box.X0+by.X, f.Box.Y0+by.Y, f.Box.X1+by.X, f.Box.Y1+by.Y), a, c, h, want)
		if in > 0 && want == api.Out || in < len(f.Points) && want == api.In {
			t.Error("class", want, "of", f.Box, "with", in, "points in the bar of", a, c, h)
		}
		counts[want]++
		if in == 0 && want == api.Mixed {
			counts[3]++
		}
	}
}

// 8.1, 8.2: all small boxes in, across, beside and around small bars in all directions.
func TestClassEverywhere(t *testing.T) {
	list, counts := sample.FilledBoxes(-2, 2), [4]int{}
	sample.Segments(bx(-4, -4, 1, 1), bx(-4, -4, 4, 4), func(a, c api.Pt) {
		for h := int64(0); h <= 4; h++ {
			checkBoxes(t, bx(-2, -2, 2, 2), list, a, c, pt(0, 0), h, &counts)
		}
	})
	if min(counts[api.Out], counts[api.Mixed], counts[api.In], counts[3]) < 10000 {
		t.Error("too few of a class:", counts)
	}
}

// 8.2: small boxes and bars at either Far.
func TestEverywhereAtFar(t *testing.T) {
	list, counts := sample.FilledBoxes(0, 3), [4]int{}
	for _, x := range []int64{-far, far - 3} {
		for _, y := range []int64{-far, far - 3} {
			sample.Segments(bx(0, 0, 3, 3), bx(0, 0, 3, 3), func(a, c api.Pt) {
				for h := int64(0); h <= 3; h++ {
					checkBoxes(t, bx(0, 0, 3, 3), list, a, c, pt(x, y), h, &counts)
				}
			})
		}
	}
}

// 8.2: Out and In hold for points between the whole ones: those of a grid four times as fine, whose lengths are told in quarters.
func TestClassBetween(t *testing.T) {
	list := sample.Boxes(-1, 2)
	fine := sample.Points(bx(-4, -4, 8, 8))
	sample.Segments(bx(-3, -3, 1, 1), bx(-3, -3, 3, 3), func(a, c api.Pt) {
		for h := int64(1); h <= 3; h++ {
			inside := map[api.Pt]bool{}
			for _, p := range fine {
				inside[p] = sidesOf(p, pt(4*a.X, 4*a.Y), pt(4*c.X, 4*c.Y), 4*h) == 0
			}
			for _, b := range list {
				class := Class(b, a, c, h)
				for _, p := range sample.Points(bx(4*b.X0, 4*b.Y0, 4*b.X1, 4*b.Y1)) {
					if inside[p] && class == api.Out || !inside[p] && class == api.In {
						t.Fatalf("Class(%v, %v, %v, %d) = %d, but %v quarters: %v", b, a, c, h, class, p, inside[p])
					}
				}
			}
		}
	})
}

// 8.1, 8.2: boxes and segments of any size up to Far, and widths that just reach their corners, or don't.
func TestAnySize(t *testing.T) {
	random := rand.New(rand.NewSource(81))
	counts := [3]int{}
	for range 10000 {
		a, c := sample.Point(random.Int63n), sample.Point(random.Int63n)
		b := sample.Beside(random.Int63n, a, c)
		around, p := corners(b, a, c), pt(b.X0, b.Y1)
		for _, l := range around {
			for h := l.root() - 1; h <= l.root()+1; h++ {
				want := classOf(around, h)
				checkClass(t, b, a, c, h, want)
				checkHas(t, p, a, c, h, around[2].sides(h) == 0)
				counts[want]++
			}
		}
		if t.Failed() {
			t.FailNow()
		}
	}
	if min(counts[api.Out], counts[api.Mixed], counts[api.In]) < 5000 {
		t.Error("too few of a class:", counts)
	}
}

// 8.1, 8.2: the corners of bars of any size, and the middles of their sides: each point at a distance of exactly h fails with a width less by 1, and each point of an edge one step farther out. The box that lies beyond such a point touches the bar in it alone.
func TestExactEdges(t *testing.T) {
	random := rand.New(rand.NewSource(82))
	for range 20000 {
		e := sample.AnySlant(random.Int63n)
		if e.A == e.C {
			continue
		}
		check := func(p, out api.Pt, h int64) {
			sx, sy := sample.Sign(out.X), sample.Sign(out.Y)
			edge, corner := pt(sx*far, sy*far), sample.Moved(p, sx, sy)
			checkHas(t, p, e.A, e.C, h, true)
			checkHas(t, sample.Moved(p, sx, 0), e.A, e.C, h, false)
			checkHas(t, sample.Moved(p, 0, sy), e.A, e.C, h, false)
			checkClass(t, sample.Dot(p), e.A, e.C, h, api.In)
			checkClass(t, sample.Between(p, edge), e.A, e.C, h, api.Mixed)
			checkClass(t, sample.Between(pt(corner.X, p.Y), edge), e.A, e.C, h, api.Out)
			checkClass(t, sample.Between(pt(p.X, corner.Y), edge), e.A, e.C, h, api.Out)
		}
		n, v := e.Normal, e.Along
		for _, side := range []int64{-1, 1} {
			across := pt(side*n.X, side*n.Y)
			first, last := sample.Moved(e.A, across.X, across.Y), sample.Moved(e.C, across.X, across.Y)
			for _, p := range []api.Pt{first, last} {
				check(p, across, e.R)
				checkHas(t, p, e.A, e.C, e.R-1, false)
				checkClass(t, sample.Dot(p), e.A, e.C, e.R-1, api.Out)
			}
			if v.X%2 == 0 && v.Y%2 == 0 {
				check(sample.Moved(first, v.X/2, v.Y/2), across, e.R)
			}
			check(first, pt(-v.X, -v.Y), e.R)
			check(last, v, e.R)
		}
		for _, h := range []int64{1, e.R, math.MaxInt64} {
			check(e.A, pt(-v.X, -v.Y), h)
			check(e.C, v, h)
		}
		if t.Failed() {
			t.FailNow()
		}
	}
}

// 8.2: a box whose ends are exchanged has no point, and so none of any bar.
func TestExchangedEnds(t *testing.T) {
	for _, b := range sample.Backward() {
		for _, c := range []api.Pt{pt(0, 0), pt(9, 0), pt(-3, 7), pt(far, far)} {
			for _, h := range []int64{0, 1, 2, 5, far, 1 << 31, math.MaxInt64} {
				checkClass(t, b, pt(0, 0), c, h, api.Out)
			}
		}
	}
}

// 8.3: no call panics, whatever the order and the size of the numbers.
func TestNoPanic(t *testing.T) {
	sample.Wild(rand.New(rand.NewSource(83)).Int63n, func(b api.Box, p [4]api.Pt, h int64) {
		Has(p[0], p[1], p[2], h)
		if class := Class(b, p[1], p[2], h); class != api.Out && class != api.Mixed && class != api.In {
			t.Fatal("class", class)
		}
	})
}
