package poly

import (
	"math/rand"
	"slices"
	"testing"

	"heliograph/api"
	"heliograph/sample"
)

const far = int64(api.Far)

func bx(x0, y0, x1, y1 int64) api.Box { return api.Box{X0: x0, Y0: y0, X1: x1, Y1: y1} }

func pt(x, y int64) api.Pt { return api.Pt{X: x, Y: y} }

// path is the contour of the points whose coordinates are told in turn.
func path(numbers ...int64) []api.Pt {
	var contour []api.Pt
	for i := 0; i < len(numbers); i += 2 {
		contour = append(contour, pt(numbers[i], numbers[i+1]))
	}
	return contour
}

// list is a list of contours.
func list(contours ...[]api.Pt) [][]api.Pt { return contours }

// square is the contour around bx(low, low, high, high).
func square(low, high int64) []api.Pt { return path(low, low, high, low, high, high, low, high) }

// times returns l with all its coordinates multiplied by n.
func times(l [][]api.Pt, n int64) [][]api.Pt {
	return changed(l, func(p api.Pt) api.Pt { return pt(n*p.X, n*p.Y) })
}

// changed returns l with each of its points changed.
func changed(l [][]api.Pt, change func(api.Pt) api.Pt) [][]api.Pt {
	var result [][]api.Pt
	for _, contour := range l {
		var next []api.Pt
		for _, p := range contour {
			next = append(next, change(p))
		}
		result = append(result, next)
	}
	return result
}

// edge joins two points.
type edge struct{ a, c api.Pt }

// edges are those of 6.1: they join consecutive points, and the last point with the first one.
func edges(l [][]api.Pt) []edge {
	var result []edge
	for _, contour := range l {
		for i := range contour {
			next := i + 1
			if next == len(contour) {
				next = 0
			}
			result = append(result, edge{contour[i], contour[next]})
		}
	}
	return result
}

// sub is the vector from q to p.
func sub(p, q api.Pt) api.Pt { return pt(p.X-q.X, p.Y-q.Y) }

// turned is positive if v is to the left of u, and negative if it is to the right.
func turned(u, v api.Pt) int64 { return u.X*v.Y - u.Y*v.X }

func sign(v int64) int {
	if v > 0 {
		return 1
	}
	if v < 0 {
		return -1
	}
	return 0
}

// lies reports whether p is on e.
func lies(p api.Pt, e edge) bool {
	u, v := sub(e.a, p), sub(e.c, p)
	return turned(u, v) == 0 && u.X*v.X+u.Y*v.Y <= 0
}

// directions are so slanted that no ray up to Far with one of them meets a second whole point.
func directions() []api.Pt {
	return []api.Pt{pt(1<<31, 1), pt(-1<<31, 1), pt(1, 1<<31), pt(-1, -1<<31)}
}

// hit reports whether the ray from p crosses e, where p is not on e.
func hit(p, direction api.Pt, e edge) bool {
	u, v := sub(e.a, p), sub(e.c, p)
	if sign(turned(direction, u))*sign(turned(direction, v)) >= 0 {
		return false
	}
	along := sub(e.c, e.a)
	// The crossing is this quotient of cross products times direction away from p.
	return sign(turned(u, along))*sign(turned(direction, along)) > 0
}

// hasOf is 6.1 about Has, by rays that meet no corner, each of which must tell the same.
func hasOf(t *testing.T, p api.Pt, all []edge) bool {
	t.Helper()
	for _, e := range all {
		if lies(p, e) {
			return true
		}
	}
	odd := 0
	for _, direction := range directions() {
		count := 0
		for _, e := range all {
			if hit(p, direction, e) {
				count++
			}
		}
		odd += count % 2
	}
	if odd != 0 && odd != len(directions()) {
		t.Fatalf("the rays from %v disagree: %v", p, all)
	}
	return odd > 0
}

// common reports whether two edges have a common point.
func common(e, f edge) bool {
	if lies(e.a, f) || lies(e.c, f) || lies(f.a, e) || lies(f.c, e) {
		return true
	}
	u, v := sub(e.c, e.a), sub(f.c, f.a)
	return sign(turned(u, sub(f.a, e.a)))*sign(turned(u, sub(f.c, e.a))) < 0 && sign(turned(v, sub(e.a, f.a)))*sign(turned(v, sub(e.c, f.a))) < 0
}

// touches reports whether e has a point in b: an end, or one on a diagonal.
func touches(b api.Box, e edge) bool {
	if b.X0 <= e.a.X && e.a.X <= b.X1 && b.Y0 <= e.a.Y && e.a.Y <= b.Y1 {
		return true
	}
	return common(e, edge{pt(b.X0, b.Y0), pt(b.X1, b.Y1)}) || common(e, edge{pt(b.X0, b.Y1), pt(b.X1, b.Y0)})
}

// classOf is 6.1 about Class, where has tells which points of b are in the contours with these edges.
func classOf(t *testing.T, b api.Box, all []edge, points []api.Pt, has func(api.Pt) bool) int {
	t.Helper()
	for _, e := range all {
		if touches(b, e) {
			return api.Mixed
		}
	}
	in := 0
	for _, p := range points {
		if has(p) {
			in++
		}
	}
	if in == 0 {
		return api.Out
	}
	if in != len(points) {
		t.Fatalf("%d of %d points of %v are in, although no edge meets it: %v", in, len(points), b, all)
	}
	return api.In
}

func frame() [][]api.Pt { return list(square(0, 10), path(3, 3, 3, 7, 7, 7, 7, 3)) }

func pentagram() [][]api.Pt { return list(path(0, 10, 6, -8, -9, 3, 9, 3, -6, -8)) }

func bowTie() [][]api.Pt { return list(path(0, 0, 8, 8, 8, 0, 0, 8)) }

func diamond() [][]api.Pt { return list(path(5, 0, 10, 5, 5, 10, 0, 5)) }

// comb has edges along the axes, two of which begin where the one before ends without a turn, and teeth whose ends are level.
func comb() [][]api.Pt {
	return list(path(0, 0, 4, 0, 9, 0, 9, 6, 7, 6, 7, 3, 5, 3, 5, 6, 3, 6, 3, 3, 0, 3))
}

// shapes are lists of contours of every kind that the tests name, whose coordinates are from -2 to 4.
func shapes() [][][]api.Pt {
	triangle, slanted := path(-2, -1, 4, 1, 0, 4), path(-2, 0, 1, -2, 4, 1, 1, 4)
	return [][][]api.Pt{
		nil, list(nil), list(nil, []api.Pt{}),
		// Contours of one point, of two points, and of one point told often.
		list(path(1, 1)), list(path(-2, -2), path(4, 4), path(0, 0)), list(path(-1, 0, 3, 2)), list(path(0, 1, 4, 1)), list(path(2, -2, 2, 3)), list(path(1, 2, 1, 2, 1, 2)),
		// One contour, also with points told twice, spikes, and edges that lie on each other.
		list(square(0, 3)), list(triangle), list(slanted), list(path(0, 0, 4, 0, 4, 2, 2, 2, 2, 4, 0, 4)), list(path(-2, 0, 0, 0, 0, -2, 1, 0, 4, 0, 1, 3)),
		list(path(0, 0, 0, 0, 3, 0, 3, 3, 3, 3, 0, 3)), list(path(0, 0, 4, 0, 2, 0, 2, 3)), list(path(-1, -1, 3, -1, 3, 3, 1, 3, 1, 4, 1, 3, -1, 3)), list(path(0, 0, 4, 0, -2, 0)), list(path(-2, -2, 4, -2, 1, 1, 4, 4, -2, 4, 1, 1)),
		// Contours that cross themselves.
		list(path(-2, -2, 4, 4, 4, -2, -2, 4)), list(path(0, 4, 2, -2, -2, 2, 3, 2, -2, -1)), list(path(-2, -2, 4, -2, 4, 4, 0, 4, 0, 0, 2, 0, 2, 2, -2, 2)),
		// One contour within another, in both directions, and three of them.
		list(square(-2, 4), square(0, 2)), list(square(-2, 4), path(0, 0, 0, 2, 2, 2, 2, 0)), list(square(-2, 4), square(-1, 3), square(1, 1)), list(slanted, path(0, 1, 1, 0, 2, 1, 1, 2)),
		// Contours told twice or three times, also from another point, or in the other direction.
		list(triangle, triangle), list(triangle, triangle, triangle), list(square(0, 3), path(3, 0, 0, 0, 0, 3, 3, 3)), list(slices.Concat(triangle, triangle)),
		// Contours that overlap, or share an edge, a piece of an edge or a corner, or touch with a corner.
		list(square(-2, 2), square(0, 4)), list(path(-2, 0, 1, 0, 1, 3, -2, 3), path(1, 0, 4, 0, 4, 3, 1, 3)), list(path(-2, 0, 1, 0, 1, 3, -2, 3), path(1, 1, 4, 1, 4, 4, 1, 4)), list(square(-2, 1), square(1, 4)), list(path(-2, -2, 1, -2, 1, 4, -2, 4), path(1, 1, 4, -1, 4, 3)), list(square(-2, 4), path(-2, 1, 1, 0, 1, 2)), list(square(-2, 4), path(-2, -2, 1, -2, 1, 1)),
		// Contours without an inside among the others.
		list(square(0, 3), path(1, 1), path(2, 1, 2, 3), nil, path(-2, -2, -1, 4)),
	}
}

// 6.1: points inside, outside, at corners and on edges, and rays that run through corners and along edges.
func TestHas(t *testing.T) {
	cases := []struct {
		l    [][]api.Pt
		p    api.Pt
		want bool
	}{
		// No contours, and contours of no point, of one point and of two points.
		{nil, pt(0, 0), false}, {list(), pt(0, 0), false}, {list(nil), pt(0, 0), false}, {list(nil, []api.Pt{}), pt(0, 0), false},
		{list(path(4, 4)), pt(4, 4), true}, {list(path(4, 4)), pt(4, 5), false}, {list(path(4, 4)), pt(3, 4), false}, {list(path(4, 4)), pt(5, 4), false}, {list(nil, path(4, 4)), pt(4, 4), true}, {list(path(4, 4), nil), pt(0, 0), false},
		{list(path(0, 0, 4, 2)), pt(2, 1), true}, {list(path(0, 0, 4, 2)), pt(0, 0), true}, {list(path(0, 0, 4, 2)), pt(4, 2), true}, {list(path(0, 0, 4, 2)), pt(1, 1), false}, {list(path(0, 0, 4, 2)), pt(-2, -1), false}, {list(path(0, 0, 4, 2)), pt(6, 3), false}, {list(path(0, 0, 4, 2)), pt(-1, 1), false}, {list(path(0, 0, 4, 2)), pt(-1, 0), false}, {list(path(0, 3, 4, 3)), pt(-1, 3), false}, {list(path(4, 3, 0, 3)), pt(5, 3), false},
		{list(path(4, 4, 4, 4)), pt(4, 4), true}, {list(path(4, 4, 4, 4)), pt(3, 4), false},
		// A contour within another.
		{frame(), pt(1, 5), true}, {frame(), pt(5, 5), false}, {frame(), pt(9, 5), true}, {frame(), pt(5, 1), true}, {frame(), pt(5, 9), true}, {frame(), pt(4, 4), false},
		{frame(), pt(3, 5), true}, {frame(), pt(7, 5), true}, {frame(), pt(5, 3), true}, {frame(), pt(5, 7), true}, {frame(), pt(3, 3), true}, {frame(), pt(7, 7), true}, {frame(), pt(0, 5), true}, {frame(), pt(10, 5), true}, {frame(), pt(5, 0), true}, {frame(), pt(5, 10), true}, {frame(), pt(0, 0), true}, {frame(), pt(10, 0), true}, {frame(), pt(10, 10), true}, {frame(), pt(0, 10), true},
		{frame(), pt(11, 5), false}, {frame(), pt(-1, 5), false}, {frame(), pt(5, 11), false}, {frame(), pt(5, -1), false},
		// Rays along edges.
		{frame(), pt(-1, 0), false}, {frame(), pt(11, 0), false}, {frame(), pt(-1, 10), false}, {frame(), pt(11, 10), false}, {frame(), pt(0, -1), false}, {frame(), pt(10, 11), false}, {frame(), pt(-1, 3), false}, {frame(), pt(-1, 7), false}, {frame(), pt(2, 3), true}, {frame(), pt(2, 7), true}, {frame(), pt(8, 3), true}, {frame(), pt(8, 7), true}, {frame(), pt(3, 2), true}, {frame(), pt(7, 8), true},
		{comb(), pt(-1, 0), false}, {comb(), pt(-1, 3), false}, {comb(), pt(1, 3), true}, {comb(), pt(4, 3), true}, {comb(), pt(6, 3), true}, {comb(), pt(8, 3), true}, {comb(), pt(-1, 6), false}, {comb(), pt(2, 6), false}, {comb(), pt(4, 6), true}, {comb(), pt(6, 6), false}, {comb(), pt(6, 4), false}, {comb(), pt(8, 4), true}, {comb(), pt(4, 4), true}, {comb(), pt(2, 4), false}, {comb(), pt(6, 2), true}, {comb(), pt(4, 0), true}, {comb(), pt(1, 0), true},
		// Rays through corners that they enter, leave, or only touch.
		{diamond(), pt(5, 5), true}, {diamond(), pt(1, 5), true}, {diamond(), pt(-1, 5), false}, {diamond(), pt(11, 5), false}, {diamond(), pt(0, 0), false}, {diamond(), pt(0, 10), false}, {diamond(), pt(9, 0), false}, {diamond(), pt(9, 10), false}, {diamond(), pt(0, 5), true}, {diamond(), pt(5, 0), true}, {diamond(), pt(2, 3), true}, {diamond(), pt(2, 2), false}, {diamond(), pt(3, 3), true}, {diamond(), pt(8, 8), false}, {diamond(), pt(7, 8), true},
		// Contours that cross themselves: what they go round twice is outside.
		{pentagram(), pt(0, 0), false}, {pentagram(), pt(0, 2), false}, {pentagram(), pt(0, 5), true}, {pentagram(), pt(0, 3), true}, {pentagram(), pt(-6, 2), true}, {pentagram(), pt(6, 2), true}, {pentagram(), pt(0, -6), false}, {pentagram(), pt(-4, -5), true}, {pentagram(), pt(-9, 3), true}, {pentagram(), pt(-10, 3), false},
		{bowTie(), pt(4, 4), true}, {bowTie(), pt(4, 1), false}, {bowTie(), pt(4, 7), false}, {bowTie(), pt(1, 4), true}, {bowTie(), pt(7, 4), true}, {bowTie(), pt(0, 4), true}, {bowTie(), pt(-1, 4), false}, {bowTie(), pt(9, 4), false}, {bowTie(), pt(4, 0), false}, {bowTie(), pt(4, 8), false}, {bowTie(), pt(2, 2), true},
		{list(square(0, 4), square(2, 6)), pt(3, 3), false}, {list(square(0, 4), square(2, 6)), pt(1, 1), true}, {list(square(0, 4), square(2, 6)), pt(5, 5), true}, {list(square(0, 4), square(2, 6)), pt(4, 3), true},
		// Contours told twice: only the edges remain. Told three times, they are as told once.
		{list(square(0, 4), square(0, 4)), pt(2, 2), false}, {list(square(0, 4), square(0, 4)), pt(4, 2), true}, {list(square(0, 4), square(0, 4)), pt(0, 0), true}, {list(square(0, 4), square(0, 4), square(0, 4)), pt(2, 2), true}, {list(slices.Concat(square(0, 4), square(0, 4))), pt(2, 2), false},
		// A shared edge belongs to both, and a spike has only its edge.
		{list(path(0, 0, 4, 0, 4, 4, 0, 4), path(4, 0, 8, 0, 8, 4, 4, 4)), pt(4, 2), true}, {list(path(0, 0, 4, 0, 4, 4, 0, 4), path(4, 0, 8, 0, 8, 4, 4, 4)), pt(3, 2), true}, {list(path(0, 0, 4, 0, 4, 4, 0, 4), path(4, 0, 8, 0, 8, 4, 4, 4)), pt(5, 2), true},
		{list(path(0, 0, 9, 0, 4, 0, 4, 5)), pt(8, 0), true}, {list(path(0, 0, 9, 0, 4, 0, 4, 5)), pt(8, 1), false}, {list(path(0, 0, 9, 0, 4, 0, 4, 5)), pt(3, 1), true}, {list(path(0, 0, 9, 0, 4, 0, 4, 5)), pt(3, 4), false}, {list(path(0, 0, 9, 0, 4, 0, 4, 5)), pt(-1, 0), false},
	}
	for _, c := range cases {
		if got := Has(c.p, c.l); got != c.want {
			t.Errorf("Has(%v, %v) = %v", c.p, c.l, got)
		}
	}
}

// 6.1: points of edges that are as long as they can be, those beside them by the least distance there is, and the corners of everything.
func TestHasAtFar(t *testing.T) {
	all, half := list(square(-far, far)), list(path(-far, -far, far, -far, -far, far))
	thin, dot := list(path(-far, -far, far, far-1, far, far)), list(path(far, -far))
	cases := []struct {
		l    [][]api.Pt
		p    api.Pt
		want bool
	}{
		{all, pt(0, 0), true}, {all, pt(far, far), true}, {all, pt(-far, -far), true}, {all, pt(far, -far), true}, {all, pt(-far, far), true}, {all, pt(far, 0), true}, {all, pt(-far, 0), true}, {all, pt(0, far), true}, {all, pt(0, -far), true}, {all, pt(far-1, 1-far), true},
		{half, pt(0, 0), true}, {half, pt(1, 0), false}, {half, pt(0, 1), false}, {half, pt(-1, 0), true}, {half, pt(1-far, far), false}, {half, pt(-far, far), true}, {half, pt(1-far, far-1), true}, {half, pt(1-far, far-2), true}, {half, pt(far, 1-far), false}, {half, pt(far-1, 1-far), true}, {half, pt(far, far), false},
		{thin, pt(0, 0), true}, {thin, pt(far, far), true}, {thin, pt(far, far-1), true}, {thin, pt(far-1, far-1), true}, {thin, pt(far-1, far-2), false}, {thin, pt(-far, -far), true}, {thin, pt(1-far, -far), false}, {thin, pt(1-far, 1-far), true}, {thin, pt(0, -1), false}, {thin, pt(0, 1), false}, {thin, pt(far, far-2), false},
		{dot, pt(far, -far), true}, {dot, pt(far-1, -far), false}, {dot, pt(far, 1-far), false}, {dot, pt(-far, -far), false}, {dot, pt(far, far), false},
		{list(square(-far, far), square(1-far, far-1)), pt(0, 0), false}, {list(square(-far, far), square(1-far, far-1)), pt(far-1, 5), true}, {list(square(-far, far), square(1-far, far-1)), pt(far-2, 5), false}, {list(square(-far, far), square(2-far, far-2)), pt(1-far, 5), true},
		{list(path(-far, 0, far, 0)), pt(0, 0), true}, {list(path(-far, 0, far, 0)), pt(0, 1), false}, {list(path(-far, -far, far, far)), pt(5, 5), true}, {list(path(-far, -far, far, far)), pt(5, 6), false},
	}
	for _, c := range cases {
		if got := Has(c.p, c.l); got != c.want {
			t.Errorf("Has(%v, %v) = %v", c.p, c.l, got)
		}
		if want := hasOf(t, c.p, edges(c.l)); want != c.want {
			t.Errorf("the rays from %v tell %v: %v", c.p, want, c.l)
		}
	}
}

// 6.1: boxes inside, outside, around and across contours, boxes that touch an edge, and boxes of one line or one point.
func TestClass(t *testing.T) {
	triangle, all := list(path(0, 0, 100, 0, 0, 100)), bx(-far, -far, far, far)
	cases := []struct {
		l    [][]api.Pt
		b    api.Box
		want int
	}{
		// No contours, and contours without an inside.
		{nil, bx(0, 0, 9, 9), api.Out}, {nil, bx(0, 0, 0, 0), api.Out}, {nil, all, api.Out}, {list(nil, nil), bx(0, 0, 9, 9), api.Out},
		{list(path(4, 4)), bx(0, 0, 9, 9), api.Mixed}, {list(path(4, 4)), bx(4, 4, 4, 4), api.Mixed}, {list(path(4, 4)), bx(4, 4, 9, 9), api.Mixed}, {list(path(4, 4)), bx(5, 4, 9, 9), api.Out}, {list(path(4, 4)), bx(0, 4, 3, 4), api.Out},
		{list(path(0, 0, 8, 4)), bx(2, 0, 3, 1), api.Mixed}, {list(path(0, 0, 8, 4)), bx(3, 0, 4, 1), api.Out}, {list(path(0, 0, 8, 4)), bx(0, 1, 1, 4), api.Out}, {list(path(0, 0, 8, 4)), bx(9, 0, 10, 9), api.Out}, {list(path(0, 0, 8, 4)), bx(8, 4, 9, 9), api.Mixed},
		// One contour within another, and boxes that touch one of them.
		{frame(), bx(1, 1, 2, 9), api.In}, {frame(), bx(4, 4, 6, 6), api.Out}, {frame(), bx(1, 1, 9, 2), api.In}, {frame(), bx(1, 1, 2, 2), api.In}, {frame(), bx(8, 8, 9, 9), api.In}, {frame(), bx(1, 8, 9, 9), api.In},
		{frame(), bx(1, 1, 3, 2), api.In}, {frame(), bx(1, 1, 3, 3), api.Mixed}, {frame(), bx(1, 1, 2, 3), api.In}, {frame(), bx(0, 1, 2, 3), api.Mixed}, {frame(), bx(2, 2, 8, 8), api.Mixed}, {frame(), bx(3, 3, 7, 7), api.Mixed}, {frame(), bx(4, 4, 7, 6), api.Mixed}, {frame(), bx(4, 4, 6, 8), api.Mixed}, {frame(), bx(7, 7, 9, 9), api.Mixed},
		{frame(), bx(11, 0, 12, 10), api.Out}, {frame(), bx(10, 4, 12, 5), api.Mixed}, {frame(), bx(10, 10, 12, 12), api.Mixed}, {frame(), bx(11, 11, 12, 12), api.Out}, {frame(), bx(-5, -5, -1, 20), api.Out}, {frame(), bx(-5, -5, 0, 0), api.Mixed}, {frame(), bx(-5, 11, 20, 12), api.Out}, {frame(), bx(-5, -5, 20, -1), api.Out},
		// The contours are within the box, or the box is the smallest one around them.
		{frame(), bx(-9, -9, 20, 20), api.Mixed}, {frame(), bx(0, 0, 10, 10), api.Mixed}, {frame(), all, api.Mixed}, {list(path(4, 4)), all, api.Mixed}, {diamond(), bx(0, 0, 10, 10), api.Mixed},
		// A slanted edge that misses a corner of the box, touches it, or cuts it off.
		{triangle, bx(10, 10, 49, 50), api.In}, {triangle, bx(10, 10, 50, 50), api.Mixed}, {triangle, bx(10, 10, 51, 50), api.Mixed}, {triangle, bx(50, 50, 60, 60), api.Mixed}, {triangle, bx(51, 50, 60, 60), api.Out}, {triangle, bx(1, 1, 2, 97), api.In}, {triangle, bx(1, 1, 2, 98), api.Mixed}, {triangle, bx(0, 1, 2, 97), api.Mixed},
		{diamond(), bx(3, 3, 7, 7), api.In}, {diamond(), bx(2, 3, 7, 7), api.Mixed}, {diamond(), bx(3, 3, 7, 8), api.Mixed}, {diamond(), bx(0, 0, 2, 2), api.Out}, {diamond(), bx(0, 0, 2, 3), api.Mixed}, {diamond(), bx(8, 8, 10, 10), api.Out}, {diamond(), bx(8, 7, 10, 10), api.Mixed}, {diamond(), bx(0, 8, 2, 10), api.Out}, {diamond(), bx(8, 0, 10, 2), api.Out}, {diamond(), bx(10, 0, 12, 10), api.Mixed}, {diamond(), bx(-2, 0, -1, 10), api.Out}, {diamond(), bx(-2, 5, 0, 5), api.Mixed}, {diamond(), bx(0, -3, 10, 0), api.Mixed},
		// An edge goes through the box, and no corner of either lies within the other.
		{triangle, bx(20, -5, 30, 5), api.Mixed}, {triangle, bx(-5, 20, 5, 30), api.Mixed}, {triangle, bx(-5, 20, 200, 30), api.Mixed}, {triangle, bx(40, 40, 70, 70), api.Mixed},
		// Teeth of which each is inside, while the gaps between them are outside, with level ends.
		{comb(), bx(4, 1, 4, 5), api.In}, {comb(), bx(4, 1, 8, 2), api.In}, {comb(), bx(6, 4, 6, 9), api.Out}, {comb(), bx(1, 4, 2, 6), api.Out}, {comb(), bx(6, 6, 6, 6), api.Out}, {comb(), bx(2, 6, 2, 6), api.Out}, {comb(), bx(8, 3, 8, 5), api.In}, {comb(), bx(8, 3, 8, 6), api.Mixed}, {comb(), bx(1, 4, 8, 5), api.Mixed}, {comb(), bx(-3, 0, -1, 6), api.Out},
		// Contours that cross themselves, overlap, or are told twice.
		{pentagram(), bx(-1, -1, 1, 1), api.Out}, {pentagram(), bx(-2, 2, 2, 4), api.Mixed}, {pentagram(), bx(0, 4, 0, 6), api.In}, {bowTie(), bx(1, 3, 2, 5), api.In}, {bowTie(), bx(6, 3, 7, 5), api.In}, {bowTie(), bx(3, 0, 5, 2), api.Out}, {bowTie(), bx(3, 0, 5, 3), api.Mixed}, {bowTie(), bx(4, 4, 4, 4), api.Mixed},
		{list(square(0, 4), square(0, 4)), bx(1, 1, 3, 3), api.Out}, {list(square(0, 4), square(0, 4)), bx(1, 1, 4, 3), api.Mixed}, {list(square(0, 4), square(0, 4), square(0, 4)), bx(1, 1, 3, 3), api.In}, {list(square(0, 6), square(2, 8)), bx(3, 3, 5, 5), api.Out}, {list(square(0, 6), square(2, 8)), bx(1, 1, 5, 1), api.In},
		// A shared edge is an edge, although there are points inside on both sides.
		{list(path(0, 0, 4, 0, 4, 4, 0, 4), path(4, 0, 8, 0, 8, 4, 4, 4)), bx(3, 1, 5, 3), api.Mixed}, {list(path(0, 0, 4, 0, 4, 4, 0, 4), path(4, 0, 8, 0, 8, 4, 4, 4)), bx(5, 1, 7, 3), api.In}, {list(path(0, 0, 4, 0, 4, 4, 0, 4), path(4, 0, 8, 0, 8, 4, 4, 4)), bx(4, 2, 4, 2), api.Mixed},
		// Boxes of one point or one line.
		{frame(), bx(1, 1, 1, 1), api.In}, {frame(), bx(5, 5, 5, 5), api.Out}, {frame(), bx(3, 5, 3, 5), api.Mixed}, {frame(), bx(10, 10, 10, 10), api.Mixed}, {frame(), bx(11, 10, 11, 10), api.Out}, {frame(), bx(2, 3, 2, 3), api.In}, {frame(), bx(-1, 3, -1, 3), api.Out}, {frame(), bx(1, 1, 1, 9), api.In}, {frame(), bx(1, 1, 1, 10), api.Mixed}, {frame(), bx(4, 5, 6, 5), api.Out}, {frame(), bx(4, 5, 8, 5), api.Mixed}, {frame(), bx(4, 0, 6, 0), api.Mixed}, {frame(), bx(5, -4, 5, -1), api.Out}, {triangle, bx(40, 40, 59, 40), api.In}, {triangle, bx(40, 40, 60, 40), api.Mixed}, {triangle, bx(61, 40, 70, 40), api.Out},
	}
	for _, c := range cases {
		if got := Class(c.b, c.l); got != c.want {
			t.Errorf("Class(%v, %v) = %d, want %d", c.b, c.l, got, c.want)
		}
	}
}

// 6.1, 6.2: boxes at either Far, and beside edges that are as long as they can be.
func TestClassAtFar(t *testing.T) {
	all, half := list(square(-far, far)), list(path(-far, -far, far, -far, -far, far))
	thin, inner := list(path(-far, -far, far, far-1, far, far)), list(square(1-far, far-1))
	cases := []struct {
		l    [][]api.Pt
		b    api.Box
		want int
	}{
		{nil, bx(-far, -far, far, far), api.Out}, {all, bx(-far, -far, far, far), api.Mixed}, {all, bx(1-far, 1-far, far-1, far-1), api.In}, {all, bx(1-far, 1-far, far, far-1), api.Mixed}, {all, bx(-far, 0, -far, 0), api.Mixed}, {all, bx(far, far, far, far), api.Mixed}, {all, bx(far-1, far-1, far-1, far-1), api.In}, {all, bx(1-far, 1-far, 1-far, 1-far), api.In},
		{inner, bx(far, -far, far, far), api.Out}, {inner, bx(-far, -far, -far, far), api.Out}, {inner, bx(-far, far, far, far), api.Out}, {inner, bx(-far, -far, far, -far), api.Out}, {inner, bx(far-1, -far, far, far), api.Mixed}, {inner, bx(2-far, 2-far, far-2, far-2), api.In},
		{half, bx(1-far, 1-far, -1, 0), api.In}, {half, bx(1-far, 1-far, 0, 0), api.Mixed}, {half, bx(1-far, 1-far, far-1, 0), api.Mixed}, {half, bx(0, 0, far, far), api.Mixed}, {half, bx(1, 0, far, far), api.Out}, {half, bx(0, 1, far, far), api.Out}, {half, bx(1-far, 1-far, far-2, 1-far), api.In}, {half, bx(1-far, 1-far, far-1, 1-far), api.Mixed}, {half, bx(far, 1-far, far, far), api.Out}, {half, bx(far, -far, far, far), api.Mixed}, {half, bx(1-far, far, far, far), api.Out}, {half, bx(1-far, 1-far, 1-far, far-2), api.In},
		{thin, bx(0, 0, 0, 0), api.Mixed}, {thin, bx(far-1, far-2, far-1, far-2), api.Out}, {thin, bx(far, -far, far, far-2), api.Out}, {thin, bx(far, -far, far, far-1), api.Mixed}, {thin, bx(-far, 1-far, far-1, far), api.Mixed}, {thin, bx(-far, 1, 0, far), api.Out}, {thin, bx(0, -far, far, -1), api.Out}, {thin, bx(0, -far, far, 0), api.Mixed}, {thin, bx(1, -far, far, 0), api.Out},
		{list(path(far, far)), bx(far-1, far-1, far, far), api.Mixed}, {list(path(far, far)), bx(-far, -far, far, far-1), api.Out}, {list(path(-far, -far)), bx(-far, -far, -far, -far), api.Mixed},
	}
	for _, c := range cases {
		if got := Class(c.b, c.l); got != c.want {
			t.Errorf("Class(%v, %v) = %d, want %d", c.b, c.l, got, c.want)
		}
	}
}

// checkPoints checks Has for the whole points of the area.
func checkPoints(t *testing.T, l [][]api.Pt, area api.Box) {
	t.Helper()
	all := edges(l)
	for _, p := range sample.Points(area) {
		if want := hasOf(t, p, all); Has(p, l) != want {
			t.Fatalf("Has(%v, %v) = %v", p, l, !want)
		}
	}
}

// checkBoxes checks Class for the boxes, which lie in the area, against their edges and all of their whole points.
func checkBoxes(t *testing.T, l [][]api.Pt, area api.Box, boxes []api.Box) {
	t.Helper()
	all, inside := edges(l), map[api.Pt]int{}
	for _, p := range sample.Points(area) {
		if hasOf(t, p, all) {
			inside[p]++
		}
	}
	has := func(p api.Pt) bool { return inside[p] > 0 }
	for _, b := range boxes {
		if got, want := Class(b, l), classOf(t, b, all, sample.Points(b), has); got != want {
			t.Fatalf("Class(%v, %v) = %d, want %d", b, l, got, want)
		}
	}
}

// 6.1: Has for all points in and around contours of every kind.
func TestHasEverywhere(t *testing.T) {
	for _, l := range shapes() {
		checkPoints(t, l, bx(-5, -5, 7, 7))
	}
}

// 6.1, 6.2: all small boxes in, across, beside and around contours of every kind.
func TestClassEverywhere(t *testing.T) {
	boxes := sample.Boxes(-4, 6)
	for _, l := range shapes() {
		checkBoxes(t, l, bx(-4, -4, 6, 6), boxes)
	}
}

// 6.2: small boxes and contours at either Far.
func TestEverywhereAtFar(t *testing.T) {
	for _, l := range shapes() {
		for _, x := range []int64{2 - far, far - 4} {
			for _, y := range []int64{2 - far, far - 4} {
				moved := changed(l, func(p api.Pt) api.Pt { return pt(p.X+x, p.Y+y) })
				area := bx(x-2, y-2, x+4, y+4)
				var boxes []api.Box
				for _, b := range sample.Boxes(-2, 4) {
					boxes = append(boxes, bx(b.X0+x, b.Y0+y, b.X1+x, b.Y1+y))
				}
				checkPoints(t, moved, area)
				checkBoxes(t, moved, area, boxes)
			}
		}
	}
}

// 6.2: Out and In hold for points between the whole ones: those of a grid four times as fine, whose lengths are told in quarters.
func TestClassBetween(t *testing.T) {
	boxes := sample.Boxes(-3, 4)
	for _, l := range shapes() {
		fine, inside := edges(times(l, 4)), map[api.Pt]int{}
		for _, p := range sample.Points(bx(-12, -12, 16, 16)) {
			if hasOf(t, p, fine) {
				inside[p]++
			}
		}
		for _, b := range boxes {
			class := Class(b, l)
			for _, p := range sample.Points(bx(4*b.X0, 4*b.Y0, 4*b.X1, 4*b.Y1)) {
				if inside[p] > 0 && class == api.Out || inside[p] == 0 && class == api.In {
					t.Fatalf("Class(%v, %v) = %d, but %v quarters: %d", b, l, class, p, inside[p])
				}
			}
		}
	}
}

// contours are up to most contours of up to eight points, of which some are told before.
func contours(random *rand.Rand, most int, point func() api.Pt) [][]api.Pt {
	var l [][]api.Pt
	for range random.Intn(most + 1) {
		var contour []api.Pt
		for range random.Intn(9) {
			p := point()
			if len(contour) > 0 && random.Intn(8) == 0 {
				p = contour[random.Intn(len(contour))]
			}
			if len(contour) > 0 && random.Intn(4) == 0 {
				p.Y = contour[len(contour)-1].Y
			}
			contour = append(contour, p)
		}
		l = append(l, contour)
		if random.Intn(8) == 0 {
			l = append(l, slices.Clone(contour))
		}
	}
	return l
}

// small returns random points whose coordinates are from 0 to 5.
func small(random *rand.Rand) func() api.Pt {
	return func() api.Pt { return pt(random.Int63n(6), random.Int63n(6)) }
}

// 6.1, 6.2: contours of all sorts that nobody thought of.
func TestAnyShape(t *testing.T) {
	random := rand.New(rand.NewSource(61))
	boxes := sample.Boxes(-1, 6)
	for range 1500 {
		l := contours(random, 3, small(random))
		checkPoints(t, l, bx(-2, -2, 7, 7))
		checkBoxes(t, l, bx(-1, -1, 6, 6), boxes)
	}
}

// beside returns a point on, or by the least distance beside, an edge, or any point if there is none.
func beside(random *rand.Rand, all []edge) api.Pt {
	if len(all) == 0 || random.Intn(4) == 0 {
		return sample.Point(random.Int63n)
	}
	e := all[random.Intn(len(all))]
	p := []api.Pt{e.a, e.c, pt((e.a.X+e.c.X)/2, (e.a.Y+e.c.Y)/2), pt(e.a.X, e.c.Y), pt(sample.Number(random.Int63n), e.a.Y)}[random.Intn(5)]
	clamp := func(v int64) int64 { return min(max(v+random.Int63n(3)-1, -far), far) }
	return pt(clamp(p.X), clamp(p.Y))
}

// 6.1, 6.2: contours, points and boxes of any size up to Far, half of them beside the edges.
func TestAnySize(t *testing.T) {
	random := rand.New(rand.NewSource(62))
	classes := [3]int{}
	for range 20000 {
		l := contours(random, 2, func() api.Pt { return sample.Point(random.Int63n) })
		all := edges(l)
		for range 10 {
			p, q := beside(random, all), beside(random, all)
			if random.Intn(2) == 0 {
				q = pt(min(p.X+random.Int63n(3), far), min(p.Y+random.Int63n(3), far))
			}
			b := bx(min(p.X, q.X), min(p.Y, q.Y), max(p.X, q.X), max(p.Y, q.Y))
			points := []api.Pt{p, q, pt(p.X, q.Y), pt(q.X, p.Y), pt((p.X+q.X)/2, (p.Y+q.Y)/2)}
			has := func(p api.Pt) bool { return hasOf(t, p, all) }
			if want := has(p); Has(p, l) != want {
				t.Fatalf("Has(%v, %v) = %v", p, l, !want)
			}
			got, want := Class(b, l), classOf(t, b, all, points, has)
			if got != want {
				t.Fatalf("Class(%v, %v) = %d, want %d", b, l, got, want)
			}
			classes[got]++
		}
	}
	if min(classes[api.Out], classes[api.Mixed], classes[api.In]) < 2000 {
		t.Error("too few of a class:", classes)
	}
}

// checkSame checks that two lists of contours are the same set.
func checkSame(t *testing.T, l, m [][]api.Pt) {
	t.Helper()
	for _, p := range sample.Points(bx(-1, -1, 6, 6)) {
		if Has(p, l) != Has(p, m) {
			t.Fatalf("Has(%v, ..) = %v for %v, %v for %v", p, Has(p, l), l, Has(p, m), m)
		}
	}
	for _, b := range sample.Boxes(0, 5) {
		if Class(b, l) != Class(b, m) {
			t.Fatalf("Class(%v, ..) = %d for %v, %d for %v", b, Class(b, l), l, Class(b, m), m)
		}
	}
}

// 6.1: no answer hangs on the first point or the direction of a contour, on the order of the contours, on points that are told again, or on contours of no point.
func TestOrder(t *testing.T) {
	random := rand.New(rand.NewSource(63))
	for range 200 {
		l := contours(random, 3, small(random))
		var first, back, order, again [][]api.Pt
		for _, contour := range l {
			from := random.Intn(len(contour) + 1)
			next := slices.Concat(contour[from:], contour[:from])
			first = append(first, next)
			reverse := slices.Clone(next)
			slices.Reverse(reverse)
			back = append(back, reverse)
			order = append([][]api.Pt{contour}, order...)
			var double []api.Pt
			for _, p := range contour {
				double = append(double, p, p)
			}
			again = append(again, nil, double, []api.Pt{})
		}
		for _, m := range [][][]api.Pt{first, back, order, again} {
			checkSame(t, l, m)
		}
	}
}

// 6.1: mirrored and turned contours have the mirrored and turned points, although all rays go to the same side.
func TestTurned(t *testing.T) {
	random := rand.New(rand.NewSource(64))
	turns := []func(p api.Pt) api.Pt{
		func(p api.Pt) api.Pt { return pt(-p.X, p.Y) },
		func(p api.Pt) api.Pt { return pt(p.X, -p.Y) },
		func(p api.Pt) api.Pt { return pt(p.Y, p.X) },
		func(p api.Pt) api.Pt { return pt(-p.Y, p.X+9) },
	}
	for range 200 {
		l := contours(random, 3, small(random))
		for _, turn := range turns {
			m := changed(l, turn)
			for _, p := range sample.Points(bx(-1, -1, 6, 6)) {
				if Has(p, l) != Has(turn(p), m) {
					t.Fatalf("%v of %v, %v of %v", p, l, turn(p), m)
				}
			}
			for _, b := range sample.Boxes(0, 5) {
				p, q := turn(pt(b.X0, b.Y0)), turn(pt(b.X1, b.Y1))
				if turned := bx(min(p.X, q.X), min(p.Y, q.Y), max(p.X, q.X), max(p.Y, q.Y)); Class(b, l) != Class(turned, m) {
					t.Fatalf("%v of %v, %v of %v", b, l, turned, m)
				}
			}
		}
	}
}

// 6.1: a contour may have as many points as there are: of a comb with long teeth, each one is inside, and each gap is outside.
func TestManyPoints(t *testing.T) {
	for _, teeth := range []int64{250, 50000} {
		contour := path(4*teeth, -1, 0, -1)
		for i := range teeth {
			contour = append(contour, pt(4*i, 0), pt(4*i, 1000), pt(4*i+2, 1000), pt(4*i+2, 0))
		}
		l := list(contour)
		for _, i := range []int64{0, 1, teeth / 2, teeth - 1} {
			tooth, gap := bx(4*i+1, 0, 4*i+1, 999), bx(4*i+3, 1, 4*i+3, 1000)
			if Class(tooth, l) != api.In || Class(gap, l) != api.Out || Class(bx(4*i+1, 0, 4*i+1, 1000), l) != api.Mixed {
				t.Errorf("tooth %d of %d: %d, gap %d", i, teeth, Class(tooth, l), Class(gap, l))
			}
			if !Has(pt(4*i+1, 1000), l) || Has(pt(4*i+1, 1001), l) || Has(pt(4*i+3, 1000), l) || !Has(pt(4*i+1, 0), l) {
				t.Errorf("tooth %d of %d", i, teeth)
			}
		}
	}
}

// Rule 3: a call changes neither its contours nor the memory behind them.
func TestKeepsContours(t *testing.T) {
	build := func() ([][]api.Pt, []api.Pt, [][]api.Pt) {
		memory := path(0, 0, 6, 1, 3, 6, 1, 5, 2, 2, 9, 9)
		outer := list(memory[:3], memory[3:5], memory[5:], memory)
		return outer[:2], memory, outer
	}
	l, memory, outer := build()
	for _, b := range sample.Boxes(-1, 7) {
		Class(b, l)
		Has(pt(b.X0, b.Y0), l)
	}
	_, wantMemory, wantOuter := build()
	if !slices.Equal(memory, wantMemory) {
		t.Error(memory)
	}
	if !slices.EqualFunc(outer, wantOuter, slices.Equal[[]api.Pt]) {
		t.Error(outer)
	}
}

// 6.2: a box whose ends are exchanged has no point, and so none of any contour.
func TestExchangedEnds(t *testing.T) {
	for _, l := range [][][]api.Pt{nil, frame(), list(square(-far, far)), list(path(1, 0)), list(path(-5, -5, 5, 5))} {
		for _, b := range sample.Backward() {
			if got := Class(b, l); got != api.Out {
				t.Errorf("Class(%v, %v) = %d", b, l, got)
			}
		}
	}
}

// 6.3: every call ends and none panics, whatever the order and the size of the numbers.
func TestNoPanic(t *testing.T) {
	ends := sample.Extremes()
	random := rand.New(rand.NewSource(65))
	number := func() int64 { return sample.Any(random.Int63n) }
	for range 200000 {
		l := contours(random, 2, func() api.Pt { return pt(number(), number()) })
		Has(pt(number(), number()), l)
		if class := Class(bx(number(), number(), number(), number()), l); class != api.Out && class != api.Mixed && class != api.In {
			t.Fatal("class", class)
		}
	}
	for _, x := range ends {
		for _, y := range ends {
			l := list(square(x, y), path(x, y), path(y, x, x, x), nil)
			Has(pt(x, y), l)
			Has(pt(y, y), l)
			Class(bx(x, y, x, y), l)
			Class(bx(x, x, y, y), l)
			Class(bx(x, y, y, x), l)
			Class(bx(-1<<63, -1<<63, 1<<63-1, 1<<63-1), l)
		}
	}
}
