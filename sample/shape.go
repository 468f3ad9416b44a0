package sample

import (
	"heliograph/api"
)

// SmallShape returns a valid shape of any Kind, with at most so many nested forms; none of its numbers exceeds size, which is at least 1, in size. What it returns hangs on below, as that of Number.
func SmallShape(below func(n int64) int64, size int64, forms int) api.Shape {
	number := func() int64 { return below(2*size+1) - size }
	point := func() api.Pt { return api.Pt{X: number(), Y: number()} }
	r := 1 + below(size)
	for {
		a, b := point(), point()
		switch below(7) {
		case 0:
			return api.Shape{Kind: api.SDisc, A: a, R: r}
		case 1:
			return api.Shape{Kind: api.SPoly, L: contours(below, point)}
		case 2:
			return api.Shape{Kind: api.SLine, A: a, B: b, R: r}
		case 3:
			if a != b {
				return api.Shape{Kind: api.SBar, A: a, B: b, R: r}
			}
		case 4:
			if s, ok := smallRing(below, size, r, a); ok {
				return s
			}
		default:
			if forms > 0 {
				return smallForm(below, size, forms)
			}
		}
	}
}

// contours returns up to 3 contours of up to 6 points.
func contours(below func(n int64) int64, point func() api.Pt) [][]api.Pt {
	var list [][]api.Pt
	for range below(4) {
		var contour []api.Pt
		for range below(7) {
			contour = append(contour, point())
		}
		list = append(list, contour)
	}
	return list
}

// smallRing returns a ring around c, or false if the arc leads too far.
func smallRing(below func(n int64) int64, size, r int64, c api.Pt) (api.Shape, bool) {
	a := api.Pt{X: below(2*size+1) - size, Y: below(2*size+1) - size}
	e := a
	if below(2) == 0 {
		e = api.Pt{X: e.Y, Y: e.X}
	}
	for range below(4) {
		e = api.Pt{X: -e.Y, Y: e.X}
	}
	s := api.Shape{Kind: api.SRing, C: c, A: Moved(c, a.X, a.Y), B: Moved(c, e.X, e.Y), R: r}
	return s, a != api.Pt{} && max(s.A.X, s.A.Y, s.B.X, s.B.Y) <= size && min(s.A.X, s.A.Y, s.B.X, s.B.Y) >= -size
}

// smallForm returns a form of up to 5 Parts, most of them added.
func smallForm(below func(n int64) int64, size int64, forms int) api.Shape {
	s := api.Shape{Kind: api.SForm}
	for range below(6) {
		s.Parts = append(s.Parts, api.Part{Add: below(5) < 3, Shape: SmallShape(below, size, forms-1)})
	}
	return s
}

// MovedShape returns s, moved by x and y, in new memory; the points that its Kind does not have stay where they are.
func MovedShape(s api.Shape, x, y int64) api.Shape {
	switch s.Kind {
	case api.SRing:
		s.C = Moved(s.C, x, y)
		fallthrough
	case api.SLine, api.SBar:
		s.B = Moved(s.B, x, y)
		fallthrough
	case api.SDisc:
		s.A = Moved(s.A, x, y)
	}
	var l [][]api.Pt
	for _, contour := range s.L {
		var list []api.Pt
		for _, p := range contour {
			list = append(list, Moved(p, x, y))
		}
		l = append(l, list)
	}
	var parts []api.Part
	for _, part := range s.Parts {
		parts = append(parts, api.Part{Add: part.Add, Shape: MovedShape(part.Shape, x, y)})
	}
	s.L, s.Parts = l, parts
	return s
}

// WildShape returns what is hardly ever a valid shape, with up to so many levels of Parts, numbers of any size, many of them of Extremes, and any fields. What it returns hangs on below, as that of Number.
func WildShape(below func(n int64) int64, levels int) api.Shape {
	number := func() int64 {
		if below(2) == 0 {
			return Any(below)
		}
		return below(9) - 4
	}
	point := func() api.Pt {
		if below(3) == 0 {
			return api.Pt{}
		}
		return api.Pt{X: number(), Y: number()}
	}
	s := api.Shape{Kind: int(below(9) - 1), A: point(), B: point(), C: point(), R: number()}
	if below(20) == 0 {
		s.Kind = int(Any(below))
	}
	if below(3) == 0 {
		s.L = contours(below, point)
	}
	if levels > 0 && below(3) > 0 {
		for range below(4) {
			s.Parts = append(s.Parts, api.Part{Add: below(2) == 0, Shape: WildShape(below, levels-1)})
		}
	}
	return s
}
