package figure

import (
	"fmt"
	"math"
	"math/rand"
	"reflect"
	"slices"
	"testing"

	"heliograph/api"
	"heliograph/sample"
)

const far = int64(api.Far)

func bx(x0, y0, x1, y1 int64) api.Box { return api.Box{X0: x0, Y0: y0, X1: x1, Y1: y1} }

func pt(x, y int64) api.Pt { return api.Pt{X: x, Y: y} }

var o = pt(0, 0)

func round(a api.Pt, r int64) api.Shape { return api.Shape{Kind: api.SDisc, A: a, R: r} }

func area(l ...[]api.Pt) api.Shape { return api.Shape{Kind: api.SPoly, L: l} }

func stroke(a, b api.Pt, r int64) api.Shape { return api.Shape{Kind: api.SLine, A: a, B: b, R: r} }

func beam(a, b api.Pt, r int64) api.Shape { return api.Shape{Kind: api.SBar, A: a, B: b, R: r} }

func arc(c, a, b api.Pt, r int64) api.Shape {
	return api.Shape{Kind: api.SRing, C: c, A: a, B: b, R: r}
}

func form(l ...api.Part) api.Shape { return api.Shape{Kind: api.SForm, Parts: l} }

func plus(s api.Shape) api.Part { return api.Part{Add: true, Shape: s} }

func minus(s api.Shape) api.Part { return api.Part{Shape: s} }

// nested is s within n forms.
func nested(n int, s api.Shape) api.Shape {
	for range n {
		s = form(plus(s))
	}
	return s
}

// many is a form of n Parts.
func many(n int, s api.Shape) api.Shape {
	return form(slices.Repeat([]api.Part{plus(s)}, n)...)
}

// row is a contour of n points.
func row(n int) []api.Pt {
	list := make([]api.Pt, n)
	for i := range list {
		list[i].X = int64(i)
	}
	return list
}

// text is the beginning of what a shape looks like, which may have no end.
func text(s api.Shape) string {
	if count(&s, maxLevels, 101) > 100 {
		return fmt.Sprintf("%d %v %v %v %d, with many Parts", s.Kind, s.A, s.B, s.C, s.R)
	}
	return fmt.Sprintf("%.300s", fmt.Sprint(s))
}

// everywhere are points and boxes that tell most shapes from nothing.
func everywhere(do func(p api.Pt, b api.Box)) {
	for _, p := range []api.Pt{o, pt(1, 1), pt(-3, 4), pt(5, 0), pt(far, far), pt(-far, far), pt(far, 0), pt(0, -far)} {
		do(p, sample.Dot(p))
		do(p, sample.Between(p, o))
		do(p, sample.Between(p, pt(-2, 2)))
	}
	do(o, bx(-far, -far, far, far))
}

// checkNone checks that s has nothing.
func checkNone(t *testing.T, s api.Shape) {
	t.Helper()
	everywhere(func(p api.Pt, b api.Box) {
		if Has(s, p) || Class(s, b) != api.Out {
			t.Errorf("%s has %v, or some of %v", text(s), p, b)
		}
	})
	if b, ok := Bounds(s); ok || b != (api.Box{}) {
		t.Errorf("%s has the bounds %v", text(s), b)
	}
}

// checkAlone checks whether s is valid; if not, it has nothing.
func checkAlone(t *testing.T, s api.Shape, want bool) {
	t.Helper()
	if Ok(s) != want {
		t.Errorf("Ok(%s), want %v", text(s), want)
	}
	if !want {
		checkNone(t, s)
	}
}

// checkOk checks whether s is valid, also as a Part of others, added or removed, the first, the last or between.
func checkOk(t *testing.T, s api.Shape, want bool) {
	t.Helper()
	dot := round(o, 1)
	for _, whole := range []api.Shape{s, form(plus(s)), form(minus(s)), form(plus(dot), minus(s), plus(dot)), form(plus(dot), minus(form(plus(dot), minus(dot), plus(s)))), form(minus(form(minus(s), plus(dot)))), form(plus(form()), minus(s)), nested(6, s)} {
		checkAlone(t, whole, want)
	}
}

// ordinary are valid shapes of all Kinds.
func ordinary() []api.Shape {
	return []api.Shape{
		round(pt(3, -4), 5), round(o, 1), round(pt(-far, far), far),
		area(), area([]api.Pt{}), area(nil, nil), area([]api.Pt{pt(7, 8)}), area([]api.Pt{o, pt(9, 0), pt(0, 9)}, nil, []api.Pt{pt(1, 1), pt(2, 2)}),
		stroke(o, pt(3, 4), 2), stroke(o, o, 1), stroke(pt(5, 6), pt(5, 6), 7), stroke(pt(far, far), pt(-far, -far), far),
		beam(o, pt(3, 4), 2), beam(pt(1, 2), o, 1), beam(pt(far, -far), pt(-far, far), far),
		arc(o, pt(5, 0), pt(3, 4), 2), arc(pt(1, 1), pt(2, 1), pt(2, 1), 1), arc(pt(5, 5), o, pt(10, 0), 9), arc(pt(5, 0), o, pt(10, 0), far), arc(pt(0, 5), pt(5, 5), o, 1), arc(pt(-far, -far), pt(far, -far), pt(-far, far), far),
		form(), form(plus(round(o, 1))), form(minus(round(o, 1))), form(plus(form()), minus(form(minus(area())))), form(plus(stroke(o, o, 3)), minus(area(row(5))), plus(beam(o, pt(0, 1), 1)), minus(arc(o, pt(1, 0), pt(0, 1), 1))),
	}
}

// 10.1: the Kind is one of six.
func TestOkKind(t *testing.T) {
	for _, s := range append(ordinary(), api.Shape{}, api.Shape{R: 1}) {
		checkOk(t, s, s.Kind != 0)
		for _, kind := range []int{0, -1, -2, -6, 7, 8, 12, math.MaxInt, math.MinInt, 1 << 32, 1<<32 + 1, 1<<32 + 6} {
			s.Kind = kind
			checkOk(t, s, false)
		}
	}
}

// field is something that is set in a field.
type field struct {
	name byte
	set  func(s *api.Shape)
}

// settings are ways in which a field is not zero.
func settings() []field {
	var list []field
	for _, p := range []api.Pt{pt(1, 0), pt(0, 1), pt(-1, 0), pt(0, -1), pt(2, 3), pt(far, 0), pt(0, -far)} {
		list = append(list,
			field{'A', func(s *api.Shape) { s.A = p }},
			field{'B', func(s *api.Shape) { s.B = p }},
			field{'C', func(s *api.Shape) { s.C = p }})
	}
	for _, r := range []int64{1, -1, 2, far, far + 1, math.MaxInt64, math.MinInt64, 1 << 32} {
		list = append(list, field{'R', func(s *api.Shape) { s.R = r }})
	}
	for _, l := range [][][]api.Pt{{nil}, {{}}, {nil, nil}, {{o}}, {{pt(1, 2), pt(3, 4)}, nil}} {
		list = append(list, field{'L', func(s *api.Shape) { s.L = l }})
	}
	for _, part := range []api.Part{{}, {Add: true}, plus(round(o, 1)), minus(round(o, 1)), plus(form()), minus(area())} {
		list = append(list, field{'P', func(s *api.Shape) { s.Parts = []api.Part{part} }})
	}
	return list
}

// 10.1: what a Kind does not have is zero, and what it has may be zero, if nothing else forbids it.
func TestOkFields(t *testing.T) {
	cases := []struct {
		has string
		s   api.Shape
	}{
		{"AR", round(o, 1)}, {"AR", round(pt(3, 4), 5)}, {"L", area()}, {"L", area(row(3))}, {"ABR", stroke(o, o, 1)}, {"ABR", stroke(pt(3, 4), pt(5, 6), 7)}, {"ABR", beam(pt(3, 4), pt(5, 6), 7)}, {"ABR", beam(o, pt(5, 6), 7)}, {"ABCR", arc(o, pt(5, 0), pt(0, 5), 1)}, {"ABCR", arc(pt(5, 5), o, o, 1)}, {"P", form()}, {"P", form(plus(round(o, 1)), minus(form()))},
	}
	for _, x := range cases {
		checkOk(t, x.s, true)
		for _, f := range settings() {
			if slices.Contains([]byte(x.has), f.name) {
				continue
			}
			s := x.s
			f.set(&s)
			checkOk(t, s, false)
		}
		// Lists of length 0 are nil lists.
		if s := x.s; s.L == nil {
			s.L = [][]api.Pt{}
			checkOk(t, s, true)
			s.L = make([][]api.Pt, 0, 5)
			checkOk(t, s, true)
		}
		if s := x.s; s.Parts == nil {
			s.Parts = []api.Part{}
			checkOk(t, s, true)
			s.Parts = []api.Part{{}}[:0]
			checkOk(t, s, true)
		}
	}
}

// 10.1: the coordinates of all points are from -Far to Far, whatever the Kind.
func TestOkFar(t *testing.T) {
	shapes := func(p api.Pt) []api.Shape {
		// Two points beside p and beside each other, towards the middle.
		x, y := sample.Moved(p, -sample.Sign(p.X), 0), sample.Moved(p, 0, -sample.Sign(p.Y))
		return []api.Shape{
			round(p, 1), stroke(p, o, 1), stroke(o, p, 1), stroke(p, p, 1), beam(p, o, 1), beam(o, p, 1),
			arc(p, x, y, 1), arc(p, x, x, 1), arc(x, p, p, 1), arc(y, p, p, 1), arc(x, p, sample.Moved(x, -sample.Sign(p.X), 0), 1), arc(y, sample.Moved(y, 0, -sample.Sign(p.Y)), p, 1),
			area([]api.Pt{p}), area([]api.Pt{p, o}), area([]api.Pt{o, p}), area([]api.Pt{o, o, p, o}), area(nil, []api.Pt{o}, []api.Pt{o, p}, []api.Pt{o}), area([]api.Pt{o, o}, []api.Pt{p}),
		}
	}
	for _, v := range []int64{far, far - 1, -far, 1 - far, 1 << 28} {
		for _, w := range []int64{0, 7, -7, far, -far} {
			for _, p := range []api.Pt{pt(v, w), pt(w, v)} {
				for _, s := range shapes(p) {
					checkOk(t, s, true)
				}
			}
		}
	}
	for _, v := range []int64{far + 1, -far - 1, far + 2, 1 << 31, -1 << 31, 1 << 32, 1<<32 + 1, 1 << 62, math.MaxInt64, math.MinInt64, math.MinInt64 + 1} {
		for _, w := range []int64{0, 7, far, -far, far + 1, v} {
			for _, p := range []api.Pt{pt(v, w), pt(w, v)} {
				for _, s := range shapes(p) {
					checkOk(t, s, false)
				}
			}
		}
	}
}

// 10.1: just one of the three points of an arc is beyond Far.
func TestOkArcFar(t *testing.T) {
	edge, inner, outer := pt(far, 0), pt(far-1, 0), pt(far+1, 0)
	up, down := pt(far, 1), pt(far, -1)
	for _, s := range []api.Shape{arc(edge, up, down, 1), arc(edge, inner, up, 1), arc(edge, down, inner, 1), arc(inner, edge, edge, 1)} {
		checkOk(t, s, true)
	}
	for _, s := range []api.Shape{arc(outer, edge, edge, 1), arc(edge, outer, up, 1), arc(edge, down, outer, 1), arc(edge, outer, inner, 1), arc(edge, inner, outer, 1), arc(edge, outer, outer, 1)} {
		checkOk(t, s, false)
		turned := s
		for _, p := range []*api.Pt{&turned.A, &turned.B, &turned.C} {
			*p = pt(p.Y, -p.X)
		}
		checkOk(t, turned, false)
	}
}

// 10.1: R is 1 to Far where the Kind has it, and 0 elsewhere.
func TestOkRadius(t *testing.T) {
	thick := []api.Shape{round(o, 1), round(pt(far, far), 1), stroke(o, pt(3, 4), 1), stroke(o, o, 1), beam(o, pt(3, 4), 1), arc(o, pt(5, 0), pt(3, 4), 1), arc(pt(1, 1), o, o, 1)}
	flat := []api.Shape{area(), area(row(3)), form(), form(plus(round(o, 1)))}
	for _, s := range thick {
		for _, r := range []int64{1, 2, 3, 1000, far - 1, far} {
			s.R = r
			checkOk(t, s, true)
		}
	}
	for _, r := range append(sample.NoRadii(), sample.GreatRadii()...) {
		for _, s := range thick {
			s.R = r
			checkOk(t, s, 1 <= r && r <= far)
		}
		for _, s := range flat {
			s.R = r
			checkOk(t, s, r == 0)
		}
	}
}

// 10.1: a stroke may be of one point, but a bar not, and a ring has to be an arc.
func TestOkEnds(t *testing.T) {
	for _, p := range []api.Pt{o, pt(1, 0), pt(0, 1), pt(-3, 4), pt(far, -far)} {
		checkOk(t, stroke(p, p, 3), true)
		checkOk(t, beam(p, p, 3), false)
		for _, q := range []api.Pt{pt(2, 2), pt(p.X, 2), pt(2, p.Y), pt(p.X, -1), pt(-1, p.Y)} {
			checkOk(t, stroke(p, q, 3), true)
			checkOk(t, beam(p, q, 3), true)
		}
	}
	points := sample.Points(bx(-2, -2, 2, 2))
	for _, c := range points[:13] {
		for _, a := range points {
			for _, e := range points {
				x, y, u, v := a.X-c.X, a.Y-c.Y, e.X-c.X, e.Y-c.Y
				if want := x*x+y*y == u*u+v*v && x*x+y*y > 0; Ok(arc(c, a, e, 1)) != want {
					t.Errorf("Ok(%v), want %v", arc(c, a, e, 1), want)
				}
			}
		}
	}
	for _, s := range []api.Shape{arc(o, pt(5, 0), pt(0, 6), 1), arc(o, pt(3, 4), pt(4, 4), 1), arc(o, o, o, 1), arc(o, o, pt(5, 0), 1), arc(o, pt(5, 0), o, 1), arc(pt(1, 0), pt(5, 0), pt(-5, 0), 1), arc(pt(-far, 0), pt(far, 0), pt(far, 1), 1), arc(pt(5, 0), o, pt(0, 5), 1)} {
		checkOk(t, s, false)
	}
}

// 10.1: contours have at most 1,000 points together; how many there are does not matter.
func TestOkContours(t *testing.T) {
	for _, l := range [][][]api.Pt{{}, {nil}, {{}, {}}, {row(1000)}, {row(1), row(999)}, {row(600), nil, row(400)}, {nil, row(1000), {}}, slices.Repeat([][]api.Pt{row(1)}, 1000), slices.Repeat([][]api.Pt{nil}, 5000), append(slices.Repeat([][]api.Pt{{}}, 1001), row(999), row(1)), slices.Repeat([][]api.Pt{row(100)}, 10)} {
		checkOk(t, area(l...), true)
		if n := Count(area(l...)); n != 1 {
			t.Error("count", n)
		}
	}
	for _, l := range [][][]api.Pt{{row(1001)}, {row(1), row(1000)}, {row(1000), row(1)}, {row(600), row(401)}, {row(2000)}, {row(1001), nil}, {nil, row(1001)}, slices.Repeat([][]api.Pt{row(1)}, 1001), slices.Repeat([][]api.Pt{row(100), nil}, 11), {row(2), row(999), row(0)}, slices.Repeat([][]api.Pt{row(1000)}, 1000)} {
		checkOk(t, area(l...), false)
	}
	// Two polys of 1,000 points are two.
	checkOk(t, form(plus(area(row(1000))), plus(area(row(1000)))), true)
	checkOk(t, form(plus(area(row(1000))), plus(area(row(1001)))), false)
}

// 10.1: at most 8 forms are nested.
func TestOkNested(t *testing.T) {
	for n := range 12 {
		for _, s := range []api.Shape{round(o, 1), area(), arc(o, pt(1, 0), pt(1, 0), 1)} {
			checkAlone(t, nested(n, s), n <= 8)
			checkAlone(t, form(minus(nested(n, s))), n <= 7)
			checkAlone(t, form(plus(s), minus(nested(n, s)), plus(s)), n <= 7)
			checkAlone(t, form(plus(nested(3, s)), plus(form(minus(nested(n, s)))), plus(nested(3, s))), n <= 6)
			if got := Count(nested(n, s)); got != n+1 {
				t.Error(n, got)
			}
		}
		// A form without Parts is a form, too.
		checkAlone(t, nested(n, form()), n <= 7)
		// Those beside each other are not nested.
		checkAlone(t, many(n, nested(7, round(o, 1))), true)
		checkAlone(t, many(n+1, nested(8, round(o, 1))), false)
	}
}

// 10.1: Count counts the shape itself and, recursively, those of its Parts; at most 1,000.
func TestCount(t *testing.T) {
	dot := round(o, 1)
	group := many(110, dot)
	cases := []struct {
		s    api.Shape
		want int
	}{
		{dot, 1}, {area(row(1000)), 1}, {stroke(o, o, 1), 1}, {beam(o, pt(1, 0), 1), 1}, {arc(o, pt(1, 0), pt(1, 0), 1), 1}, {form(), 1}, {form(plus(dot)), 2}, {form(minus(dot)), 2}, {form(plus(dot), minus(form()), plus(form(minus(dot), minus(dot)))), 6},
		{many(998, dot), 999}, {many(999, dot), 1000}, {many(1000, dot), 1001}, {many(1001, dot), 1002}, {many(999, area()), 1000}, {many(999, form()), 1000}, {many(1000, form()), 1001}, {many(5000, dot), 5001},
		{group, 111}, {many(9, group), 1000}, {form(append(many(9, group).Parts, plus(dot))...), 1001}, {form(append(many(9, group).Parts, minus(form()))...), 1001}, {form(plus(many(9, group))), 1001}, {form(minus(many(8, group)), plus(many(109, dot))), 1000}, {form(minus(many(8, group)), plus(many(110, dot))), 1001},
		{nested(7, many(992, dot)), 1000}, {nested(7, many(993, dot)), 1001}, {nested(6, form(plus(many(992, dot)))), 1000},
	}
	for _, x := range cases {
		if got := Count(x.s); got != x.want {
			t.Errorf("counted %d, want %d", got, x.want)
		}
		checkAlone(t, x.s, x.want <= 1000)
	}
}

// 10.1: Count also counts shapes that are not valid, of any Kind.
func TestCountInvalid(t *testing.T) {
	parts := []api.Part{{}, {Add: true, Shape: api.Shape{Kind: 99, Parts: []api.Part{{}, {}}}}, minus(form(plus(round(o, -1))))}
	for kind := -1; kind <= 7; kind++ {
		s := api.Shape{Kind: kind, R: far + 1, L: [][]api.Pt{row(2000)}}
		if Count(s) != 1 {
			t.Error(kind, Count(s))
		}
		s.Parts = parts
		if Count(s) != 7 || Count(form(plus(s), minus(s))) != 15 {
			t.Error(kind, Count(s))
		}
	}
	deep := 1 << 16
	if got := Count(nested(deep, api.Shape{})); got != deep+1 {
		t.Error("deep:", got)
	}
	checkNone(t, nested(deep, round(o, 1)))
	// Parts that are shared count wherever they are.
	shared := round(o, 1)
	for range 20 {
		shared = form(plus(shared), minus(shared))
	}
	if got := Count(shared); got != 1<<21-1 {
		t.Error("shared:", got)
	}
	checkNone(t, shared)
}

// 10.4: a shape that is a Part of itself has no end, but each call has one.
func TestOwnPart(t *testing.T) {
	for _, n := range []int{1, 2, 1000} {
		parts := make([]api.Part, n)
		s := api.Shape{Kind: api.SForm, Parts: parts}
		for i := range parts {
			parts[i] = plus(s)
		}
		checkAlone(t, s, false)
		checkAlone(t, form(plus(round(o, 1)), minus(s)), false)
		if got := count(&s, maxLevels, 1<<20); got != 1<<20 && n > 1 {
			t.Error(n, got)
		}
		if n == 1 {
			Count(s)
		}
	}
}

// full is a copy of s, in which all lists have spare capacity, filled with what they must not lose.
func full(s api.Shape) api.Shape {
	spare := []api.Pt{pt(71, 72), pt(73, 74)}
	l := make([][]api.Pt, 0, len(s.L)+2)
	for _, contour := range s.L {
		l = append(l, append(append(make([]api.Pt, 0, len(contour)+2), contour...), spare...)[:len(contour)])
	}
	parts := make([]api.Part, 0, len(s.Parts)+2)
	for _, part := range s.Parts {
		parts = append(parts, api.Part{Add: part.Add, Shape: full(part.Shape)})
	}
	s.L, s.Parts = append(l, spare, spare)[:len(l)], append(parts, plus(round(o, 75)), minus(form()))[:len(parts)]
	return s
}

// behind is s, in which all lists have taken in their spare capacity.
func behind(s api.Shape) api.Shape {
	var l [][]api.Pt
	for _, contour := range s.L[:cap(s.L)] {
		l = append(l, contour[:cap(contour)])
	}
	var parts []api.Part
	for _, part := range s.Parts[:cap(s.Parts)] {
		parts = append(parts, api.Part{Add: part.Add, Shape: behind(part.Shape)})
	}
	s.L, s.Parts = l, parts
	return s
}

// Rule 3 of the document: no call changes its arguments, nor what is behind their lists.
func TestUnchanged(t *testing.T) {
	below := rand.New(rand.NewSource(101)).Int63n
	for i := range 2000 {
		s := full(sample.SmallShape(below, 4, 3))
		if i%2 == 0 {
			s = full(sample.WildShape(below, 3))
		}
		before := sample.MovedShape(behind(s), 0, 0)
		for range 2 {
			Ok(s)
			Count(s)
			Bounds(s)
			everywhere(func(p api.Pt, b api.Box) {
				Has(s, p)
				Class(s, b)
			})
		}
		if !reflect.DeepEqual(sample.MovedShape(behind(s), 0, 0), before) {
			t.Fatal(before)
		}
	}
}

// 10.4: no call panics, whatever the shapes and the order and size of the numbers; what is not valid has nothing.
func TestNoPanic(t *testing.T) {
	random := rand.New(rand.NewSource(102))
	valid := 0
	sample.Wild(random.Int63n, func(b api.Box, p [4]api.Pt, r int64) {
		s := api.Shape{Kind: 1 + random.Intn(6), A: p[0], B: p[1], C: p[2], R: r, L: [][]api.Pt{p[:], nil, p[1:2]}}
		if random.Intn(2) == 0 {
			s = sample.WildShape(random.Int63n, 3)
		}
		if random.Intn(3) == 0 {
			s = sample.SmallShape(random.Int63n, 9, 3)
		}
		whole, ok := Bounds(s)
		class := Class(s, b)
		switch {
		case !Ok(s) && (Has(s, p[3]) || class != api.Out || ok || whole != api.Box{} || Count(s) < 1):
			t.Fatal(s)
		case class != api.Out && class != api.Mixed && class != api.In:
			t.Fatal("class", class)
		}
		if Ok(s) {
			valid++
			Has(s, p[3])
		}
		Fold(int(r), int(p[0].X), r > 0)
	})
	if valid < 10000 {
		t.Error("too few are valid:", valid)
	}
}
