package disc

import (
	"math"
	"math/big"
	"math/rand"
	"testing"

	"heliograph/api"
	"heliograph/sample"
)

const far = int64(api.Far)

const across = sample.Across

func bx(x0, y0, x1, y1 int64) api.Box { return api.Box{X0: x0, Y0: y0, X1: x1, Y1: y1} }

func pt(x, y int64) api.Pt { return api.Pt{X: x, Y: y} }

// bigDistance is the square of the distance between p and q.
func bigDistance(p, q api.Pt) *big.Int {
	x := new(big.Int).Sub(big.NewInt(p.X), big.NewInt(q.X))
	y := new(big.Int).Sub(big.NewInt(p.Y), big.NewInt(q.Y))
	return x.Add(x.Mul(x, x), y.Mul(y, y))
}

// reaches reports, without any bound of numbers, whether a disc with radius r has points at a distance whose square is d.
func reaches(r int64, d *big.Int) bool {
	square := new(big.Int).Mul(big.NewInt(r), big.NewInt(r))
	return r >= 1 && d.Cmp(square) <= 0
}

// distances are the squares of the distances between c and the nearest and the farthest point of b, found by trying each place where they can be: the corners, and where c is level with the box.
func distances(b api.Box, c api.Pt) (near, most *big.Int) {
	xs, ys := []int64{b.X0, b.X1}, []int64{b.Y0, b.Y1}
	if b.X0 <= c.X && c.X <= b.X1 {
		xs = append(xs, c.X)
	}
	if b.Y0 <= c.Y && c.Y <= b.Y1 {
		ys = append(ys, c.Y)
	}
	for _, x := range xs {
		for _, y := range ys {
			d := bigDistance(pt(x, y), c)
			if near == nil || d.Cmp(near) < 0 {
				near = d
			}
			if most == nil || d.Cmp(most) > 0 {
				most = d
			}
		}
	}
	return near, most
}

// classOf is the class of a box whose nearest and farthest points are at these distances, squared.
func classOf(near, most *big.Int, r int64) int {
	if !reaches(r, near) {
		return api.Out
	}
	if reaches(r, most) {
		return api.In
	}
	return api.Mixed
}

// 5.1: points at the centre, inside, at a distance of exactly r, and just beyond it.
func TestHas(t *testing.T) {
	c, o, low := pt(10, 20), pt(0, 0), pt(-far, -far)
	cases := []struct {
		p, c api.Pt
		r    int64
		want bool
	}{
		{pt(10, 20), c, 5, true}, {pt(11, 19), c, 5, true}, {pt(13, 24), c, 5, true}, {pt(13, 16), c, 5, true}, {pt(7, 24), c, 5, true}, {pt(6, 17), c, 5, true},
		{pt(15, 20), c, 5, true}, {pt(5, 20), c, 5, true}, {pt(10, 25), c, 5, true}, {pt(10, 15), c, 5, true},
		{pt(16, 20), c, 5, false}, {pt(4, 20), c, 5, false}, {pt(10, 26), c, 5, false}, {pt(10, 14), c, 5, false}, {pt(14, 24), c, 5, false}, {pt(7, 15), c, 5, false}, {pt(15, 21), c, 5, false}, {pt(20, 10), c, 5, false}, {pt(-10, -20), c, 5, false},
		{o, o, 1, true}, {pt(1, 0), o, 1, true}, {pt(0, -1), o, 1, true}, {pt(1, 1), o, 1, false}, {pt(-1, 1), o, 1, false}, {pt(2, 0), o, 1, false}, {pt(1, 1), o, 2, true}, {pt(2, 1), o, 2, false},
		{o, o, 0, false}, {c, c, 0, false}, {c, c, -1, false}, {pt(13, 24), c, -5, false}, {pt(11, 20), c, -5, false},
		// At Far: 2^30 apart along an axis, the root of 2^61 from corner to corner.
		{pt(far, 0), o, far, true}, {pt(far, 0), o, far - 1, false}, {pt(far, 1), o, far, false}, {pt(0, -far), o, far, true}, {pt(1, -far), o, far, false}, {pt(-far, far), o, far, false},
		{pt(far, -far), low, 1 << 30, true}, {pt(far, -far), low, 1<<30 - 1, false}, {pt(-far, far), low, 1 << 30, true}, {pt(-far+1, far), low, 1 << 30, false},
		{pt(far, far), low, across, true}, {pt(far, far), low, across - 1, false}, {low, pt(far, far), across, true}, {low, pt(far, far), across - 1, false}, {pt(far, far-1), low, across - 1, false}, {pt(far-1, far-1), low, across - 1, true},
		{pt(far, -far), pt(far, -far), 1, true}, {pt(far-1, -far), pt(far, -far), 1, true}, {pt(far-1, -far+1), pt(far, -far), 1, false},
		{pt(3<<27, far), o, 5 << 27, true}, {pt(3<<27, far), o, 5<<27 - 1, false}, {pt(3<<27+1, far), o, 5 << 27, false},
	}
	for _, x := range cases {
		if got := Has(x.p, x.c, x.r); got != x.want {
			t.Errorf("Has(%v, %v, %d) = %v", x.p, x.c, x.r, got)
		}
	}
}

// 5.1: near, touching, within, around and beside a disc.
func TestClass(t *testing.T) {
	c, o, low := pt(10, 20), pt(0, 0), pt(-far, -far)
	all := bx(-far, -far, far, far)
	cases := []struct {
		b    api.Box
		c    api.Pt
		r    int64
		want int
	}{
		// Within the disc, with corners on the circle, and with one corner or one line beyond it.
		{bx(9, 19, 11, 21), c, 5, api.In}, {bx(7, 16, 13, 24), c, 5, api.In}, {bx(6, 17, 14, 23), c, 5, api.In}, {bx(10, 20, 13, 24), c, 5, api.In}, {bx(13, 20, 13, 24), c, 5, api.In},
		{bx(7, 16, 13, 25), c, 5, api.Mixed}, {bx(7, 15, 13, 24), c, 5, api.Mixed}, {bx(6, 16, 13, 24), c, 5, api.Mixed}, {bx(7, 16, 14, 24), c, 5, api.Mixed}, {bx(10, 20, 14, 24), c, 5, api.Mixed}, {bx(6, 16, 10, 20), c, 5, api.Mixed},
		// All four corners just outside, although all sides meet the disc.
		{bx(6, 16, 14, 24), c, 5, api.Mixed}, {bx(5, 19, 15, 21), c, 5, api.Mixed}, {bx(9, 15, 11, 25), c, 5, api.Mixed},
		// The disc is within the box, or the box is the smallest one around it, or a side cuts it.
		{bx(0, 0, 30, 40), c, 5, api.Mixed}, {bx(5, 15, 15, 25), c, 5, api.Mixed}, {bx(0, 20, 30, 40), c, 5, api.Mixed}, {bx(0, 24, 30, 40), c, 5, api.Mixed}, {all, c, 5, api.Mixed}, {all, c, 1, api.Mixed},
		// Touching in one point only: at a side, or at a corner.
		{bx(15, 0, 16, 40), c, 5, api.Mixed}, {bx(0, 0, 5, 40), c, 5, api.Mixed}, {bx(0, 25, 30, 26), c, 5, api.Mixed}, {bx(0, 0, 30, 15), c, 5, api.Mixed},
		{bx(13, 24, 99, 99), c, 5, api.Mixed}, {bx(14, 23, 99, 99), c, 5, api.Mixed}, {bx(0, 24, 7, 99), c, 5, api.Mixed}, {bx(0, 0, 7, 16), c, 5, api.Mixed}, {bx(13, 0, 99, 16), c, 5, api.Mixed},
		// Just beside it.
		{bx(16, 0, 17, 40), c, 5, api.Out}, {bx(0, 0, 4, 40), c, 5, api.Out}, {bx(0, 26, 30, 27), c, 5, api.Out}, {bx(0, 0, 30, 14), c, 5, api.Out},
		{bx(14, 24, 99, 99), c, 5, api.Out}, {bx(13, 25, 99, 99), c, 5, api.Out}, {bx(0, 25, 7, 99), c, 5, api.Out}, {bx(0, 0, 6, 16), c, 5, api.Out}, {bx(14, 0, 99, 16), c, 5, api.Out}, {bx(-far, -far, -far+1, -far+1), c, 5, api.Out}, {bx(15, 25, 20, 30), c, 5, api.Out},
		// Boxes of one point.
		{bx(10, 20, 10, 20), c, 5, api.In}, {bx(13, 24, 13, 24), c, 5, api.In}, {bx(15, 20, 15, 20), c, 5, api.In}, {bx(14, 24, 14, 24), c, 5, api.Out}, {bx(16, 20, 16, 20), c, 5, api.Out}, {bx(10, 20, 10, 20), c, 1, api.In}, {bx(11, 20, 11, 20), c, 1, api.In}, {bx(11, 21, 11, 21), c, 1, api.Out},
		// Boxes of one line: a diameter, a chord, a longer line, a tangent, and a line just beside it.
		{bx(5, 20, 15, 20), c, 5, api.In}, {bx(10, 15, 10, 25), c, 5, api.In}, {bx(7, 24, 13, 24), c, 5, api.In}, {bx(7, 24, 14, 24), c, 5, api.Mixed}, {bx(4, 20, 15, 20), c, 5, api.Mixed}, {bx(10, 15, 10, 26), c, 5, api.Mixed}, {bx(0, 25, 30, 25), c, 5, api.Mixed}, {bx(0, 26, 30, 26), c, 5, api.Out}, {bx(15, 0, 15, 40), c, 5, api.Mixed}, {bx(16, 20, 30, 20), c, 5, api.Out}, {bx(14, 24, 20, 24), c, 5, api.Out},
		// Radius 1.
		{bx(-1, 0, 1, 0), o, 1, api.In}, {bx(0, -1, 0, 1), o, 1, api.In}, {bx(0, 0, 1, 1), o, 1, api.Mixed}, {bx(-1, -1, 1, 1), o, 1, api.Mixed}, {bx(1, -1, 2, 1), o, 1, api.Mixed}, {bx(1, 1, 2, 2), o, 1, api.Out}, {bx(2, 0, 2, 0), o, 1, api.Out},
		// Radii below 1.
		{bx(10, 20, 10, 20), c, 0, api.Out}, {bx(10, 20, 10, 20), c, -7, api.Out}, {bx(9, 19, 11, 21), c, 0, api.Out}, {bx(7, 16, 13, 24), c, -5, api.Out}, {bx(0, 0, 30, 40), c, -5, api.Out}, {all, o, 0, api.Out}, {all, o, -across, api.Out},
		// At Far.
		{all, o, far, api.Mixed}, {bx(-far, 0, far, 0), o, far, api.In}, {bx(-far, 0, far, 1), o, far, api.Mixed}, {bx(far, -far, far, far), o, far, api.Mixed}, {bx(far, 1, far, far), o, far, api.Out}, {bx(far, far, far, far), o, far, api.Out}, {bx(far, 0, far, 0), o, far - 1, api.Out},
		{all, low, across, api.In}, {all, low, across - 1, api.Mixed}, {all, low, 1 << 30, api.Mixed}, {bx(-far, -far, far, -far), low, 1 << 30, api.In}, {bx(far, -far, far, far), low, 1 << 30, api.Mixed}, {bx(far, -far+1, far, far), low, 1 << 30, api.Out},
		{bx(far, far, far, far), low, across, api.In}, {bx(far, far, far, far), low, across - 1, api.Out}, {bx(far-1, far-1, far, far), low, across - 1, api.Mixed}, {bx(0, 0, far, far), pt(far, -far), across, api.In}, {bx(-far, 0, far, far), pt(far, -far), across - 1, api.Mixed},
		{all, o, 759250125, api.In}, {all, o, 759250124, api.Mixed}, {all, pt(1, 0), 759250125, api.Mixed},
		{bx(-3<<27, -far, 3<<27, far), o, 5 << 27, api.In}, {bx(-3<<27, -far, 3<<27, far), o, 5<<27 - 1, api.Mixed}, {bx(-3<<27, -far, 3<<27+1, far), o, 5 << 27, api.Mixed}, {bx(3<<27, far, far, far), o, 5 << 27, api.Mixed}, {bx(3<<27+1, far, far, far), o, 5 << 27, api.Out},
	}
	for _, x := range cases {
		if got := Class(x.b, x.c, x.r); got != x.want {
			t.Errorf("Class(%v, %v, %d) = %d, want %d", x.b, x.c, x.r, got, x.want)
		}
	}
}

// 5.1: a disc is empty if its radius is below 1, whatever the square of its radius.
func TestNoRadius(t *testing.T) {
	for _, r := range sample.NoRadii() {
		for _, c := range []api.Pt{pt(0, 0), pt(3, -4), pt(far, far), pt(-far, far)} {
			if Has(c, c, r) || Has(pt(0, 0), c, r) {
				t.Errorf("the disc around %v with radius %d has a point", c, r)
			}
			for _, b := range []api.Box{bx(c.X, c.Y, c.X, c.Y), bx(0, -4, 3, 0), bx(-far, -far, far, far)} {
				if got := Class(b, c, r); got != api.Out {
					t.Errorf("Class(%v, %v, %d) = %d", b, c, r, got)
				}
			}
		}
	}
}

// 5.1: radii have no upper bound, and the greatest ones reach every point.
func TestGreatRadius(t *testing.T) {
	list := sample.Scattered()
	for _, r := range sample.GreatRadii() {
		for _, c := range list {
			for _, p := range list {
				if want := reaches(r, bigDistance(p, c)); Has(p, c, r) != want {
					t.Errorf("Has(%v, %v, %d) = %v", p, c, r, !want)
				}
				b := bx(min(p.X, 1), min(p.Y, 1), max(p.X, 1), max(p.Y, 1))
				near, most := distances(b, c)
				if got, want := Class(b, c, r), classOf(near, most, r); got != want {
					t.Errorf("Class(%v, %v, %d) = %d, want %d", b, c, r, got, want)
				}
			}
		}
	}
}

// 5.1: Has for all points in and around small discs.
func TestHasEverywhere(t *testing.T) {
	for r := int64(-3); r <= 12; r++ {
		for _, c := range sample.Points(bx(-2, -2, 2, 2)) {
			for _, p := range sample.Points(bx(-15, -15, 15, 15)) {
				x, y := p.X-c.X, p.Y-c.Y
				if want := r >= 1 && x*x+y*y <= r*r; Has(p, c, r) != want {
					t.Fatalf("Has(%v, %v, %d) = %v", p, c, r, !want)
				}
			}
		}
	}
}

// checkSmall checks Class against all whole points of b: from a whole centre, the nearest and the farthest point of a box are whole, so that no other point changes the class.
func checkSmall(t *testing.T, b api.Box, c api.Pt, r int64) {
	t.Helper()
	in, out := 0, 0
	for _, p := range sample.Points(b) {
		x, y := p.X-c.X, p.Y-c.Y
		if r >= 1 && x*x+y*y <= r*r {
			in++
		} else {
			out++
		}
	}
	want := api.Mixed
	if in == 0 {
		want = api.Out
	} else if out == 0 {
		want = api.In
	}
	if got := Class(b, c, r); got != want {
		t.Fatalf("Class(%v, %v, %d) = %d, with %d whole points in the disc and %d outside", b, c, r, got, in, out)
	}
}

// 5.1, 5.2: all small boxes beside, across, within and around small discs.
func TestClassEverywhere(t *testing.T) {
	for _, b := range sample.Boxes(-3, 3) {
		for _, c := range sample.Points(bx(-6, -6, 2, 2)) {
			for r := int64(-1); r <= 11; r++ {
				checkSmall(t, b, c, r)
			}
		}
	}
}

// 5.2: small boxes at either Far, beside centres near to them.
func TestClassAtFar(t *testing.T) {
	for _, b := range sample.Boxes(0, 3) {
		for _, x := range []int64{-far, far - 3} {
			for _, y := range []int64{-far, far - 3} {
				moved := bx(b.X0+x, b.Y0+y, b.X1+x, b.Y1+y)
				for _, c := range sample.Points(bx(x, y, x+3, y+3)) {
					for r := int64(0); r <= 6; r++ {
						checkSmall(t, moved, c, r)
					}
				}
			}
		}
	}
}

// 5.2: Out and In hold for points between the whole ones: those of a grid four times as fine, whose lengths are told in quarters.
func TestClassBetween(t *testing.T) {
	for _, b := range sample.Boxes(-2, 2) {
		for _, c := range sample.Points(bx(-4, -4, 1, 1)) {
			for r := int64(1); r <= 6; r++ {
				class := Class(b, c, r)
				for _, p := range sample.Points(bx(4*b.X0, 4*b.Y0, 4*b.X1, 4*b.Y1)) {
					x, y := p.X-4*c.X, p.Y-4*c.Y
					inside := x*x+y*y <= 16*r*r
					if inside && class == api.Out || !inside && class == api.In {
						t.Fatalf("Class(%v, %v, %d) = %d, but %v quarters: %v", b, c, r, class, p, inside)
					}
				}
			}
		}
	}
}

// around are radii just below, at and above the root of d.
func around(d *big.Int) []int64 {
	root := new(big.Int).Sqrt(d).Int64()
	return []int64{root - 1, root, root + 1, root + 2}
}

// 5.1, 5.2: boxes and centres of any size up to Far, and radii that just reach their nearest or farthest points, or don't.
func TestAnySize(t *testing.T) {
	random := rand.New(rand.NewSource(51))
	for range 50000 {
		b, c := sample.Box(random.Int63n), sample.Point(random.Int63n)
		near, most := distances(b, c)
		for _, r := range append(append(around(near), around(most)...), 1+random.Int63n(1<<31)) {
			if got, want := Class(b, c, r), classOf(near, most, r); got != want {
				t.Fatalf("Class(%v, %v, %d) = %d, want %d", b, c, r, got, want)
			}
			p := pt(b.X0, b.Y1)
			if want := reaches(r, bigDistance(p, c)); Has(p, c, r) != want {
				t.Fatalf("Has(%v, %v, %d) = %v", p, c, r, !want)
			}
		}
	}
}

// 5.1: points at a distance of exactly r, of any size, and the box all of whose corners are such points; each of them just fails with a radius less by 1, or one step farther out.
func TestExactlyR(t *testing.T) {
	random := rand.New(rand.NewSource(52))
	for range 20000 {
		m, n := 2+random.Int63n(1000), 1+random.Int63n(1000)
		x, y, r := m*m-n*n, 2*m*n, m*m+n*n
		if x == 0 {
			continue
		}
		if x < 0 {
			x = -x
		}
		times := 1 + random.Int63n(far/r)
		x, y, r = x*times, y*times, r*times
		room := far - r
		c := pt(random.Int63n(2*room+1)-room, random.Int63n(2*room+1)-room)
		b := bx(c.X-x, c.Y-y, c.X+x, c.Y+y)
		wide, corner := bx(b.X0, b.Y0, b.X1+1, b.Y1), bx(b.X1, b.Y1, b.X1+1, b.Y1+1)
		if Class(b, c, r) != api.In || Class(b, c, r-1) != api.Mixed || Class(wide, c, r) != api.Mixed || Class(corner, c, r) != api.Mixed || Class(corner, c, r-1) != api.Out {
			t.Fatalf("%v around %v with radius %d", b, c, r)
		}
		for _, p := range []api.Pt{pt(b.X0, b.Y0), pt(b.X1, b.Y0), pt(b.X0, b.Y1), pt(b.X1, b.Y1)} {
			if !Has(p, c, r) || Has(p, c, r-1) {
				t.Fatalf("%v of the disc around %v with radius %d", p, c, r)
			}
		}
		if Has(pt(b.X1+1, b.Y1), c, r) || Has(pt(b.X0, b.Y0-1), c, r) {
			t.Fatalf("beside the disc around %v with radius %d", c, r)
		}
	}
}

// 5.1: a box whose ends are exchanged has no point, and so none of any disc.
func TestExchangedEnds(t *testing.T) {
	c := pt(0, 0)
	for _, b := range sample.Backward() {
		for _, r := range []int64{0, 1, 2, 5, across, math.MaxInt64} {
			if got := Class(b, c, r); got != api.Out {
				t.Errorf("Class(%v, %v, %d) = %d", b, c, r, got)
			}
		}
	}
}

// 5.3: no call panics, whatever the order and the size of the numbers.
func TestNoPanic(t *testing.T) {
	sample.Wild(rand.New(rand.NewSource(53)).Int63n, func(b api.Box, p [4]api.Pt, r int64) {
		Has(p[0], p[1], r)
		if class := Class(b, p[1], r); class != api.Out && class != api.Mixed && class != api.In {
			t.Fatal("class", class)
		}
	})
}
