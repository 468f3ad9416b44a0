package figure

import (
	"math/big"
	"math/rand"
	"testing"

	"heliograph/api"
	"heliograph/sample"
)

// checkBounds checks the bounds of s, also where s is a Part of others.
func checkBounds(t *testing.T, s api.Shape, want api.Box, ok bool) {
	t.Helper()
	dot := round(o, 1)
	for _, whole := range []api.Shape{s, form(plus(s)), form(minus(round(o, far)), plus(s), minus(s)), form(plus(form()), plus(s), plus(form(minus(dot)))), form(plus(area(nil)), plus(form(plus(s), minus(form(plus(dot)))))), form(plus(s), plus(s))} {
		if b, found := Bounds(whole); b != want || found != ok {
			t.Errorf("Bounds(%s) = %v, %v, want %v, %v", text(whole), b, found, want, ok)
		}
	}
	if !ok {
		return
	}
	for _, other := range []api.Shape{dot, stroke(pt(far, 3), pt(-far, 3), 2), area([]api.Pt{pt(0, far), pt(1, 1-far)})} {
		near, _ := Bounds(other)
		both := bx(min(want.X0, near.X0), min(want.Y0, near.Y0), max(want.X1, near.X1), max(want.Y1, near.Y1))
		for _, whole := range []api.Shape{form(plus(s), plus(other)), form(plus(other), plus(s)), form(plus(form(plus(other))), minus(dot), plus(s))} {
			if b, found := Bounds(whole); b != both || !found {
				t.Errorf("Bounds(%s) = %v, %v, want %v", text(whole), b, found, both)
			}
		}
	}
}

// 10.2: the bounds of each Kind, with the ends in both orders, cut off at -Far and Far.
func TestBounds(t *testing.T) {
	for _, x := range []struct {
		s    api.Shape
		want api.Box
	}{
		{round(o, 1), bx(-1, -1, 1, 1)}, {round(pt(3, -4), 10), bx(-7, -14, 13, 6)}, {round(o, far), bx(-far, -far, far, far)}, {round(pt(1, 0), far), bx(1-far, -far, far, far)}, {round(pt(0, -1), far), bx(-far, -far, far, far-1)}, {round(pt(far, -far), 5), bx(far-5, -far, far, 5-far)}, {round(pt(far-5, 5-far), 5), bx(far-10, -far, far, 10-far)}, {round(pt(far-6, 6-far), 5), bx(far-11, 1-far, far-1, 11-far)}, {round(pt(far, far), far), bx(0, 0, far, far)}, {round(pt(-far, -far), 1), bx(-far, -far, 1-far, 1-far)},
		{area([]api.Pt{pt(3, 4)}), bx(3, 4, 3, 4)}, {area([]api.Pt{pt(-3, -4)}), bx(-3, -4, -3, -4)}, {area(nil, []api.Pt{pt(5, 1), pt(2, 7)}, []api.Pt{}), bx(2, 1, 5, 7)}, {area([]api.Pt{pt(1, 9), pt(3, 2)}, []api.Pt{pt(-4, 5)}), bx(-4, 2, 3, 9)}, {area([]api.Pt{pt(far, 0), pt(0, far)}, []api.Pt{pt(-far, 3)}, []api.Pt{pt(3, -far)}), bx(-far, -far, far, far)}, {area([]api.Pt{pt(far, far)}), bx(far, far, far, far)}, {area([]api.Pt{pt(-far, -far)}), bx(-far, -far, -far, -far)}, {area([]api.Pt{pt(far, -far)}), bx(far, -far, far, -far)}, {area(row(1000)), bx(0, 0, 999, 0)},
		{stroke(pt(1, 2), pt(1, 2), 3), bx(-2, -1, 4, 5)}, {stroke(pt(far, far), pt(-far, -far), 1), bx(-far, -far, far, far)},
		{stroke(pt(far, 1), pt(far-9, 3), 4), bx(far-13, -3, far, 7)},
	} {
		checkBounds(t, x.s, x.want, true)
	}
	for _, x := range []struct {
		a, b api.Pt
		r    int64
		want api.Box
	}{
		{pt(9, 1), pt(2, 5), 3, bx(-1, -2, 12, 8)}, {pt(2, 1), pt(9, 5), 3, bx(-1, -2, 12, 8)}, {pt(0, 0), pt(0, 7), 1, bx(-1, -1, 1, 8)}, {pt(-3, 4), pt(6, 4), 2, bx(-5, 2, 8, 6)}, {pt(-far, 0), pt(far, 1), 2, bx(-far, -2, far, 3)}, {pt(5-far, 0), pt(far-5, 0), 5, bx(-far, -5, far, 5)}, {pt(6-far, 0), pt(far-6, 0), 5, bx(1-far, -5, far-1, 5)}, {pt(0, 4-far), pt(0, far-4), 5, bx(-5, -far, 5, far)}, {pt(far, far), pt(far-1, far), far, bx(-1, 0, far, far)},
	} {
		for _, s := range []api.Shape{stroke(x.a, x.b, x.r), stroke(x.b, x.a, x.r), beam(x.a, x.b, x.r), beam(x.b, x.a, x.r)} {
			checkBounds(t, s, x.want, true)
		}
	}
}

// inFar is whether p is not beyond Far.
func inFar(p api.Pt) bool {
	return -far <= p.X && p.X <= far && -far <= p.Y && p.Y <= far
}

// cut is b, cut off at -Far and Far.
func cut(b api.Box) api.Box {
	return bx(max(b.X0, -far), max(b.Y0, -far), min(b.X1, far), min(b.Y1, far))
}

// 10.2: the bounds of a ring reach around its centre by R and the distance of A, or the next whole number.
func TestBoundsRing(t *testing.T) {
	for _, x := range []struct{ x, y, want int64 }{
		// The distance is a whole number, ..
		{1, 0, 1}, {5, 0, 5}, {3, 4, 5}, {8, 6, 10}, {20, 21, 29}, {far, 0, far}, {2 * far, 0, 2 * far}, {3 << 27, 1 << 29, 5 << 27},
		// .. just below one, ..
		{2, 2, 3}, {8, 4, 9}, {18, 6, 19}, {1 << 29, 1 << 15, 1<<29 + 1}, {2 * 23000 * 23000, 2 * 23000, 2*23000*23000 + 1},
		// .. just above one, ..
		{1, 1, 2}, {2, 1, 3}, {3, 1, 4}, {7, 4, 9}, {1 << 20, 1, 1<<20 + 1}, {far, 1, far + 1}, {2*far - 9, 1, 2*far - 8},
		// .. or neither.
		{3, 2, 4}, {10, 7, 13}, {far, far, 759250125}, {2 * far, 2 * far, sample.Across},
	} {
		seen := 0
		for _, c := range []api.Pt{o, pt(7, -9), pt(far, far), pt(-far, far), pt(far, -far), pt(-far, -far), pt(far, 0), pt(0, -far)} {
			for _, v := range []api.Pt{pt(x.x, x.y), pt(-x.x, x.y), pt(x.x, -x.y), pt(-x.x, -x.y), pt(x.y, x.x), pt(-x.y, x.x), pt(x.y, -x.x), pt(-x.y, -x.x)} {
				a, turned := sample.Moved(c, v.X, v.Y), sample.Moved(c, -v.Y, v.X)
				if !inFar(a) {
					continue
				}
				for _, r := range []int64{1, 2, 7, far} {
					reach := r + x.want
					want := cut(bx(c.X-reach, c.Y-reach, c.X+reach, c.Y+reach))
					if want != bx(-far, -far, far, far) {
						seen++
					}
					checkBounds(t, arc(c, a, a, r), want, true)
					if inFar(turned) {
						checkBounds(t, arc(c, a, turned, r), want, true)
						checkBounds(t, arc(c, turned, a, r), want, true)
					}
				}
			}
		}
		if seen == 0 && x.want < 2*far-1 {
			t.Error("the bounds are everything for each ring of", x)
		}
	}
}

// upward is the least whole number whose square is at least v.
func upward(v int64) int64 {
	n := new(big.Int).Sqrt(big.NewInt(v)).Int64()
	if n*n < v {
		n++
	}
	return n
}

// 10.2: the least whole number that is not less than a distance, of all sizes.
func TestDistance(t *testing.T) {
	check := func(p, q api.Pt) {
		x, y := p.X-q.X, p.Y-q.Y
		if got, want := distance(p, q), upward(x*x+y*y); got != want || distance(q, p) != want {
			t.Errorf("distance(%v, %v) = %d, want %d", p, q, got, want)
		}
	}
	for _, p := range sample.Points(bx(-60, -60, 60, 60)) {
		check(p, o)
		check(sample.Moved(p, far-60, 60-far), pt(far, -far))
		check(sample.Moved(p, 60-far, 60-far), pt(far, far))
	}
	random := rand.New(rand.NewSource(107))
	for range 20000 {
		check(sample.Point(random.Int63n), sample.Point(random.Int63n))
		// A whole distance, and others beside it.
		s := sample.AnySlant(random.Int63n)
		end := sample.Moved(s.A, s.Normal.X, s.Normal.Y)
		for _, step := range sample.Points(bx(-1, -1, 1, 1)) {
			check(s.A, sample.Moved(end, step.X, step.Y))
		}
		if distance(s.A, end) != s.R {
			t.Errorf("distance(%v, %v), want %d", s.A, end, s.R)
		}
	}
}

// 10.2: what has no bounds: polys without points, forms with nothing added that has some, and what is not valid.
func TestNoBounds(t *testing.T) {
	dot := round(o, 9)
	for _, s := range []api.Shape{
		area(), area([]api.Pt{}), area(nil), area(nil, []api.Pt{}, nil),
		form(), form(plus(form())), form(minus(dot)), form(minus(dot), minus(area(row(3)))), form(plus(area()), minus(dot), plus(form())), form(plus(form(minus(dot)))), form(plus(form(plus(area(nil)), plus(form(minus(dot))))), minus(dot)), form(minus(form(plus(dot)))), nested(7, area()), nested(6, form(minus(dot))),
	} {
		if !Ok(s) {
			t.Error(text(s))
		}
		checkBounds(t, s, api.Box{}, false)
	}
	for _, s := range []api.Shape{{}, round(o, 0), area([]api.Pt{pt(far+1, 0)}), area(row(1001)), beam(o, o, 1), arc(o, o, o, 1), arc(o, pt(1, 0), pt(2, 0), 1), form(plus(dot), minus(round(o, 0))), {Kind: api.SDisc, R: 1, B: pt(1, 0)}, nested(9, dot), many(1000, dot)} {
		if b, ok := Bounds(s); ok || b != (api.Box{}) {
			t.Errorf("Bounds(%s) = %v, %v", text(s), b, ok)
		}
	}
}

// 10.2: the bounds of a form are those around its added Parts, wherever the removed ones lie.
func TestBoundsForm(t *testing.T) {
	left, right, high := round(pt(-50, 0), 5), stroke(pt(50, 0), pt(60, 3), 2), area([]api.Pt{pt(0, 80), pt(7, 90)})
	all := bx(-55, -5, 62, 90)
	for _, x := range []struct {
		s    api.Shape
		want api.Box
	}{
		{form(plus(left)), bx(-55, -5, -45, 5)}, {form(plus(left), plus(right)), bx(-55, -5, 62, 5)}, {form(plus(right), plus(left)), bx(-55, -5, 62, 5)}, {form(plus(left), plus(right), plus(high)), all}, {form(plus(high), plus(left), plus(right)), all},
		{form(plus(left), minus(right), plus(high)), bx(-55, -5, 7, 90)}, {form(minus(left), minus(high), plus(right)), bx(48, -2, 62, 5)}, {form(plus(left), minus(left)), bx(-55, -5, -45, 5)}, {form(plus(left), minus(round(o, far))), bx(-55, -5, -45, 5)}, {form(minus(round(pt(far, far), 9)), plus(left)), bx(-55, -5, -45, 5)},
		{form(plus(form(plus(left), minus(high))), plus(form(plus(high), minus(left)))), bx(-55, -5, 7, 90)}, {form(plus(form(plus(left), plus(right))), minus(form(plus(high)))), bx(-55, -5, 62, 5)}, {form(plus(form(plus(form(plus(left))), plus(right))), plus(form(minus(left), plus(high)))), all}, {form(plus(form(minus(form(plus(left))), plus(form(plus(form()), plus(high))))), minus(right)), bx(0, 80, 7, 90)},
		{nested(6, form(plus(left), minus(right))), bx(-55, -5, -45, 5)}, {many(999, high), bx(0, 80, 7, 90)}, {form(append(many(998, high).Parts, plus(left))...), bx(-55, -5, 7, 90)},
	} {
		if b, ok := Bounds(x.s); b != x.want || !ok {
			t.Errorf("Bounds(%s) = %v, %v, want %v", text(x.s), b, ok, x.want)
		}
	}
}

// reaches is whether the bounds of s have to reach p: around a bar they are those of a stroke, around a ring those of a disc, and what is removed does not matter.
func reaches(s api.Shape, p api.Pt) bool {
	switch s.Kind {
	case api.SBar:
		s.Kind = api.SLine
	case api.SRing:
		x, y := s.A.X-s.C.X, s.A.Y-s.C.Y
		s = round(s.C, s.R+upward(x*x+y*y))
	case api.SForm:
		for _, part := range s.Parts {
			if part.Add && reaches(part.Shape, p) {
				return true
			}
		}
		return false
	}
	return hasOf(s, p)
}

// 10.2: no whole point of a small shape lies outside its bounds, and they are the smallest box around the points that they have to reach; so it is where the shape is moved to either Far.
func TestBoundsEverywhere(t *testing.T) {
	below := rand.New(rand.NewSource(108)).Int63n
	const size = 4
	points, found, cuts := sample.Points(bx(-20, -20, 20, 20)), 0, 0
	for range 1500 {
		s := sample.SmallShape(below, size, 3)
		b, ok := Bounds(s)
		want := bx(99, 99, -99, -99)
		for _, p := range points {
			if hasOf(s, p) && (!ok || p.X < b.X0 || p.X > b.X1 || p.Y < b.Y0 || p.Y > b.Y1) {
				t.Fatalf("Bounds(%v) = %v, without %v", s, b, p)
			}
			if reaches(s, p) {
				want = bx(min(want.X0, p.X), min(want.Y0, p.Y), max(want.X1, p.X), max(want.Y1, p.Y))
			}
		}
		if !ok {
			want = bx(99, 99, -99, -99)
		}
		if ok && b != want || !ok && b != (api.Box{}) || ok != (want.X0 <= want.X1) {
			t.Fatalf("Bounds(%v) = %v, %v, want %v", s, b, ok, want)
		}
		x, y := (far-size)*(below(3)-1), (far-size)*(below(3)-1)
		there, stays := Bounds(sample.MovedShape(s, x, y))
		moved := cut(bx(b.X0+x, b.Y0+y, b.X1+x, b.Y1+y))
		if stays != ok || ok && there != moved || !ok && there != (api.Box{}) {
			t.Fatalf("Bounds(%v), moved by %d and %d, = %v, %v, want %v", s, x, y, there, stays, moved)
		}
		if ok {
			found++
		}
		if ok && moved.X1-moved.X0 < b.X1-b.X0 {
			cuts++
		}
	}
	if found < 1000 || cuts < 300 {
		t.Error("too few:", found, cuts)
	}
}

// 10.2: of any size up to Far: whatever box is not Out has a point in the bounds, and the bounds are Ok.
func TestBoundsAnySize(t *testing.T) {
	random := rand.New(rand.NewSource(109))
	found := 0
	for range 20000 {
		s := form(plus(sized(random)), minus(sized(random)), api.Part{Add: random.Intn(2) > 0, Shape: sized(random)})
		b, ok := Bounds(s)
		if !ok || b.X0 < -far || b.X0 > b.X1 || b.X1 > far || b.Y0 < -far || b.Y0 > b.Y1 || b.Y1 > far {
			t.Fatal(s, b, ok)
		}
		for _, part := range s.Parts {
			p := sample.Point(random.Int63n)
			for _, q := range []api.Pt{p, part.Shape.A, part.Shape.B, pt(p.X, part.Shape.A.Y), pt(part.Shape.A.X, p.Y), pt(b.X0-1, p.Y), pt(b.X1+1, p.Y), pt(p.X, b.Y0-1), pt(p.X, b.Y1+1)} {
				if !inFar(q) || !hasOf(s, q) {
					continue
				}
				found++
				if q.X < b.X0 || q.X > b.X1 || q.Y < b.Y0 || q.Y > b.Y1 {
					t.Fatalf("Bounds(%v) = %v, without %v", s, b, q)
				}
			}
		}
	}
	if found < 10000 {
		t.Error("too few:", found)
	}
}
