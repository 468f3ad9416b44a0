package sample

import (
	"math/rand"
	"reflect"
	"slices"
	"testing"

	"heliograph/api"
)

// walk calls do with s and the shapes of its Parts, and tells how many forms are nested.
func walk(s api.Shape, do func(api.Shape)) int {
	do(s)
	if s.Kind != api.SForm {
		return 0
	}
	forms := 0
	for _, part := range s.Parts {
		forms = max(forms, walk(part.Shape, do))
	}
	return forms + 1
}

// numbers are all numbers of s, without those of its Parts.
func numbers(s api.Shape) []int64 {
	list := []int64{s.A.X, s.A.Y, s.B.X, s.B.Y, s.C.X, s.C.Y, s.R}
	for _, contour := range s.L {
		for _, p := range contour {
			list = append(list, p.X, p.Y)
		}
	}
	return list
}

// Small shapes keep within their size and their levels, have no field that they should not have, and come in all Kinds, with all numbers.
func TestSmallShape(t *testing.T) {
	below := rand.New(rand.NewSource(5)).Int63n
	kinds, levels, found, added := [7]int{}, [3]int{}, map[int64]int{}, [2]int{}
	for range 3000 {
		s := SmallShape(below, 4, 2)
		levels[walk(s, func(s api.Shape) {
			kinds[s.Kind]++
			for _, v := range numbers(s) {
				found[v]++
			}
			zero := s.R == 0 && s.A == api.Pt{} && s.B == api.Pt{}
			switch s.Kind {
			case api.SBar:
				zero = s.A != s.B
			case api.SRing:
				a, e := Moved(s.A, -s.C.X, -s.C.Y), Moved(s.B, -s.C.X, -s.C.Y)
				zero = a != api.Pt{} && a.X*a.X+a.Y*a.Y == e.X*e.X+e.Y*e.Y
			case api.SDisc:
				zero = s.B == api.Pt{}
			case api.SLine:
				zero = true
			}
			thick := s.Kind != api.SPoly && s.Kind != api.SForm
			if !zero || thick != (s.R > 0) || s.Kind != api.SRing && s.C != (api.Pt{}) || s.Kind != api.SPoly && s.L != nil || s.Kind != api.SForm && s.Parts != nil {
				t.Fatal(s)
			}
			for _, part := range s.Parts {
				if part.Add {
					added[1]++
				} else {
					added[0]++
				}
			}
		})]++
	}
	if len(found) != 9 || found[4] == 0 || found[-4] == 0 {
		t.Error(found)
	}
	if slices.Min(kinds[1:]) < 500 || slices.Min(levels[:]) < 300 || min(added[0], added[1]) < 500 {
		t.Error("too few:", kinds, levels, added)
	}
}

// A moved shape has all of its own points elsewhere, and its own memory.
func TestMovedShape(t *testing.T) {
	p := func(x, y int64) api.Pt { return api.Pt{X: x, Y: y} }
	shapes := func(x, y int64) api.Shape {
		return api.Shape{Kind: api.SForm, Parts: []api.Part{
			{Shape: api.Shape{Kind: api.SDisc, A: p(1+x, 2+y), R: 3}},
			{Add: true, Shape: api.Shape{Kind: api.SPoly, L: [][]api.Pt{{p(4+x, 5+y), p(6+x, 7+y)}, nil, {p(8+x, 9+y)}}}},
			{Shape: api.Shape{Kind: api.SLine, A: p(1+x, 2+y), B: p(3+x, 4+y), R: 5}},
			{Shape: api.Shape{Kind: api.SBar, A: p(1+x, 2+y), B: p(3+x, 4+y), R: 5}},
			{Add: true, Shape: api.Shape{Kind: api.SForm, Parts: []api.Part{{Add: true, Shape: api.Shape{Kind: api.SRing, C: p(x, y), A: p(5+x, y), B: p(x, 5+y), R: 1}}}}},
		}}
	}
	s := shapes(0, 0)
	moved := MovedShape(s, 10, -20)
	if !reflect.DeepEqual(moved, shapes(10, -20)) || !reflect.DeepEqual(s, shapes(0, 0)) {
		t.Error(moved)
	}
	copied := MovedShape(s, 0, 0)
	copied.Parts[1].Shape.L[0][0].X, copied.Parts[1].Shape.L[2] = 99, nil
	copied.Parts[4].Shape.Parts[0].Add, copied.Parts[0].Add = false, true
	if !reflect.DeepEqual(s, shapes(0, 0)) {
		t.Error("shared memory")
	}
}

// Wild shapes have all extremes in all numbers, all Kinds and others, and Parts in each.
func TestWildShape(t *testing.T) {
	below := rand.New(rand.NewSource(6)).Int63n
	kinds, parts, deep := map[int]int{}, map[int]int{}, 0
	var found [9]map[int64]int
	for i := range found {
		found[i] = map[int64]int{}
	}
	for range 5000 {
		s := WildShape(below, 4)
		kinds[s.Kind]++
		parts[s.Kind] += len(s.Parts)
		for i, v := range numbers(s) {
			found[min(i, 8)][v]++
		}
		for levels := 0; len(s.Parts) > 0; levels++ {
			if s = s.Parts[0].Shape; levels == 3 {
				deep++
			}
		}
	}
	for kind := -1; kind <= 7; kind++ {
		if kinds[kind] < 100 || parts[kind] < 100 {
			t.Error("too few:", kind, kinds[kind], parts[kind])
		}
	}
	if deep < 100 || len(kinds) < 20 {
		t.Error("too few:", deep, len(kinds))
	}
	for i, seen := range found {
		for _, v := range Extremes() {
			if seen[v] == 0 {
				t.Error(v, "never comes at", i)
			}
		}
	}
}
