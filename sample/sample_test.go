package sample

import (
	"math/rand"
	"slices"
	"testing"

	"heliograph/api"
)

// Each of the boxes and points comes once, and none is left out.
func TestAll(t *testing.T) {
	list := Boxes(-1, 2)
	if len(list) != 100 {
		t.Errorf("%d boxes", len(list))
	}
	seen := map[api.Box]int{}
	for _, b := range list {
		seen[b]++
		if seen[b] > 1 || b.X0 < -1 || b.X0 > b.X1 || b.X1 > 2 || b.Y0 < -1 || b.Y0 > b.Y1 || b.Y1 > 2 {
			t.Error(b)
		}
	}
	want := []api.Pt{{X: 1, Y: -2}, {X: 1, Y: -1}, {X: 1, Y: 0}, {X: 2, Y: -2}, {X: 2, Y: -1}, {X: 2, Y: 0}}
	if got := Points(api.Box{X0: 1, Y0: -2, X1: 2, Y1: 0}); !slices.Equal(got, want) {
		t.Error(got)
	}
}

// Each filled box has its own points, and each segment comes once.
func TestFilledAndSegments(t *testing.T) {
	list := FilledBoxes(-1, 2)
	if len(list) != len(Boxes(-1, 2)) {
		t.Errorf("%d boxes", len(list))
	}
	for i, b := range Boxes(-1, 2) {
		if list[i].Box != b || !slices.Equal(list[i].Points, Points(b)) {
			t.Error(list[i])
		}
	}
	var ends []api.Pt
	Segments(api.Box{X0: 1, X1: 2}, api.Box{X0: 7, X1: 7, Y1: 1}, func(a, c api.Pt) { ends = append(ends, a, c) })
	want := []api.Pt{{X: 1}, {X: 7}, {X: 1}, {X: 7, Y: 1}, {X: 2}, {X: 7}, {X: 2}, {X: 7, Y: 1}}
	if !slices.Equal(ends, want) {
		t.Error(ends)
	}
}

// Boxes of points, points moved, and signs.
func TestPlaces(t *testing.T) {
	p, q := api.Pt{X: 3, Y: -7}, api.Pt{X: -2, Y: 5}
	if Dot(p) != (api.Box{X0: 3, Y0: -7, X1: 3, Y1: -7}) || Between(p, q) != (api.Box{X0: -2, Y0: -7, X1: 3, Y1: 5}) || Between(q, p) != Between(p, q) || Moved(p, 10, 20) != (api.Pt{X: 13, Y: 13}) {
		t.Error(Dot(p), Between(p, q), Between(q, p), Moved(p, 10, 20))
	}
	if Sign(-1<<63) != -1 || Sign(-1) != -1 || Sign(0) != 1 || Sign(1) != 1 || Sign(1<<63-1) != 1 {
		t.Error("signs")
	}
}

// The vector across a slant has exactly its length, is at its left, and leads nowhere beyond Far - 2; the boxes beside it aren't beyond Far, and some are near its ends.
func TestSlants(t *testing.T) {
	below := rand.New(rand.NewSource(2)).Int63n
	dots, long, wide, near := 0, 0, 0, 0
	for range 2000 {
		s := AnySlant(below)
		n, v := s.Normal, s.Along
		if s.R < 1 || n.X*n.X+n.Y*n.Y != s.R*s.R || n.X*v.X+n.Y*v.Y != 0 || v.X*n.Y-v.Y*n.X < 0 || n.X == 0 || n.Y == 0 || Moved(s.A, v.X, v.Y) != s.C {
			t.Fatal(s)
		}
		for _, end := range []api.Pt{s.A, s.C} {
			if max(end.X, end.Y)+s.R > api.Far-2 || min(end.X, end.Y)-s.R < 2-api.Far {
				t.Fatal(s)
			}
		}
		if s.A == s.C {
			dots++
		} else if max(v.X, v.Y, -v.X, -v.Y) > api.Far/8 {
			long++
		}
		if s.R > api.Far/8 {
			wide++
		}
		b := Beside(below, s.A, s.C)
		if b.X0 < -api.Far || b.X0 > b.X1 || b.X1 > api.Far || b.Y0 < -api.Far || b.Y0 > b.Y1 || b.Y1 > api.Far {
			t.Fatal(b)
		}
		if Sign(b.X0-s.A.X+2) != Sign(b.X0-s.A.X-3) && Sign(b.Y0-s.A.Y+2) != Sign(b.Y0-s.A.Y-3) {
			near++
		}
	}
	if min(dots, long, wide, near) < 5 {
		t.Error("too few:", dots, long, wide, near)
	}
}

// Each arc around the origin comes once, and none is left out.
func TestArcs(t *testing.T) {
	var ends []api.Pt
	Arcs(api.Box{X1: 1}, api.Box{X0: -1, Y0: -1, X1: 1, Y1: 2}, func(a, e api.Pt) { ends = append(ends, a, e) })
	want := []api.Pt{{X: 1}, {X: -1}, {X: 1}, {Y: -1}, {X: 1}, {Y: 1}, {X: 1}, {X: 1}}
	if !slices.Equal(ends, want) {
		t.Error(ends)
	}
}

// The ends of an arc have the same distance from its centre, which is not 0; none of the points is beyond Far; and arcs of all kinds come.
func TestAnyArc(t *testing.T) {
	below := rand.New(rand.NewSource(4)).Int63n
	circles, halves, little, great, short, long := 0, 0, 0, 0, 0, 0
	for range 5000 {
		s := AnyArc(below)
		for _, p := range []api.Pt{s.C, s.A, s.E} {
			if max(p.X, p.Y) > api.Far || min(p.X, p.Y) < -api.Far {
				t.Fatal(s)
			}
		}
		a, e := Moved(s.A, -s.C.X, -s.C.Y), Moved(s.E, -s.C.X, -s.C.Y)
		square, cross, dot := a.X*a.X+a.Y*a.Y, a.X*e.Y-a.Y*e.X, a.X*e.X+a.Y*e.Y
		switch {
		case square == 0 || square != e.X*e.X+e.Y*e.Y:
			t.Fatal(s)
		case a == e:
			circles++
		case cross == 0:
			halves++
		case dot > 0 && cross > 0 && cross < square>>10:
			little++
		case dot > 0 && cross < 0 && -cross < square>>10:
			great++
		}
		if square < 100 {
			short++
		}
		if square > 1<<57 {
			long++
		}
	}
	if min(circles, halves, little, great, short, long) < 100 {
		t.Error("too few:", circles, halves, little, great, short, long)
	}
}

// No number is beyond Far, no box has exchanged ends, and the numbers and boxes at which faults hide do come.
func TestRandom(t *testing.T) {
	below := rand.New(rand.NewSource(1)).Int63n
	found := map[int64]int{}
	lines, dots := 0, 0
	for range 1000 {
		b := Box(below)
		if b.X0 < -api.Far || b.X0 > b.X1 || b.X1 > api.Far || b.Y0 < -api.Far || b.Y0 > b.Y1 || b.Y1 > api.Far {
			t.Error(b)
		}
		p := Point(below)
		found[p.X]++
		found[p.Y]++
		if b.X0 == b.X1 || b.Y0 == b.Y1 {
			lines++
		}
		if b.X0 == b.X1 && b.Y0 == b.Y1 {
			dots++
		}
	}
	if found[api.Far] == 0 || found[-api.Far] == 0 || found[api.Far-1] == 0 || found[0] == 0 || lines == 0 || dots == 0 {
		t.Error(found[api.Far], found[-api.Far], found[api.Far-1], found[0], lines, dots)
	}
	seen := map[int64]int{}
	for range 1000 {
		seen[Any(below)]++
	}
	for _, v := range Extremes() {
		if seen[v] == 0 {
			t.Error(v, "never comes")
		}
	}
	if len(seen) < 200 {
		t.Error("no others come:", len(seen))
	}
	if list := Extremes(); slices.Max(list) != 1<<63-1 || slices.Min(list) != -1<<63 {
		t.Error(list)
	}
}

// All of the extremes come in each place.
func TestWild(t *testing.T) {
	var found [13]map[int64]int
	for i := range found {
		found[i] = map[int64]int{}
	}
	Wild(rand.New(rand.NewSource(3)).Int63n, func(b api.Box, p [4]api.Pt, r int64) {
		for i, v := range []int64{b.X0, b.Y0, b.X1, b.Y1, p[0].X, p[0].Y, p[1].X, p[1].Y, p[2].X, p[2].Y, p[3].X, p[3].Y, r} {
			found[i][v]++
		}
	})
	for i, seen := range found {
		for _, v := range Extremes() {
			if seen[v] == 0 {
				t.Error(v, "never comes at", i)
			}
		}
	}
}

// The boxes with exchanged ends have no point, and none beyond Far; the scattered points differ.
func TestLists(t *testing.T) {
	for _, b := range Backward() {
		if b.X0 <= b.X1 && b.Y0 <= b.Y1 || max(b.X0, b.Y0, b.X1, b.Y1) > api.Far || min(b.X0, b.Y0, b.X1, b.Y1) < -api.Far {
			t.Error(b)
		}
	}
	list := Scattered()
	for i, p := range list {
		if slices.Index(list, p) != i || max(p.X, p.Y) > api.Far || min(p.X, p.Y) < -api.Far {
			t.Error(p)
		}
	}
	if len(list) != 16 {
		t.Error(list)
	}
}

// The radii are those of empty shapes and of great ones, up to the ends of 64 bits, and around the one that just reaches across.
func TestRadii(t *testing.T) {
	if none := NoRadii(); slices.Max(none) != 0 || slices.Min(none) != -1<<63 {
		t.Error(none)
	}
	great := GreatRadii()
	if slices.Min(great) != api.Far-1 || slices.Max(great) != 1<<63-1 || !slices.Contains(great, Across) || !slices.Contains(great, Across-1) {
		t.Error(great)
	}
	if Across*Across < 1<<61 || (Across-1)*(Across-1) >= 1<<61 {
		t.Error(Across)
	}
}
