package sample

import (
	"math/rand"
	"slices"
	"testing"

	"heliograph/api"
)

// Each of the boxes and points comes once, and none is left out.
func TestAll(t *testing.T) {
	list := Boxes(-1, 2)
	if len(list) != 100 {
		t.Errorf("%d boxes", len(list))
	}
	seen := map[api.Box]int{}
	for _, b := range list {
		seen[b]++
		if seen[b] > 1 || b.X0 < -1 || b.X0 > b.X1 || b.X1 > 2 || b.Y0 < -1 || b.Y0 > b.Y1 || b.Y1 > 2 {
			t.Error(b)
		}
	}
	want := []api.Pt{{X: 1, Y: -2}, {X: 1, Y: -1}, {X: 1, Y: 0}, {X: 2, Y: -2}, {X: 2, Y: -1}, {X: 2, Y: 0}}
	if got := Points(api.Box{X0: 1, Y0: -2, X1: 2, Y1: 0}); !slices.Equal(got, want) {
		t.Error(got)
	}
}

// No number is beyond Far, no box has exchanged ends, and the numbers and boxes at which faults hide do come.
func TestRandom(t *testing.T) {
	below := rand.New(rand.NewSource(1)).Int63n
	found := map[int64]int{}
	lines, dots := 0, 0
	for range 1000 {
		b := Box(below)
		if b.X0 < -api.Far || b.X0 > b.X1 || b.X1 > api.Far || b.Y0 < -api.Far || b.Y0 > b.Y1 || b.Y1 > api.Far {
			t.Error(b)
		}
		p := Point(below)
		found[p.X]++
		found[p.Y]++
		if b.X0 == b.X1 || b.Y0 == b.Y1 {
			lines++
		}
		if b.X0 == b.X1 && b.Y0 == b.Y1 {
			dots++
		}
	}
	if found[api.Far] == 0 || found[-api.Far] == 0 || found[api.Far-1] == 0 || found[0] == 0 || lines == 0 || dots == 0 {
		t.Error(found[api.Far], found[-api.Far], found[api.Far-1], found[0], lines, dots)
	}
	seen := map[int64]int{}
	for range 1000 {
		seen[Any(below)]++
	}
	for _, v := range Extremes() {
		if seen[v] == 0 {
			t.Error(v, "never comes")
		}
	}
	if len(seen) < 200 {
		t.Error("no others come:", len(seen))
	}
	if list := Extremes(); slices.Max(list) != 1<<63-1 || slices.Min(list) != -1<<63 {
		t.Error(list)
	}
}

// The radii are those of empty shapes and of great ones, up to the ends of 64 bits, and around the one that just reaches across.
func TestRadii(t *testing.T) {
	if none := NoRadii(); slices.Max(none) != 0 || slices.Min(none) != -1<<63 {
		t.Error(none)
	}
	great := GreatRadii()
	if slices.Min(great) != api.Far-1 || slices.Max(great) != 1<<63-1 || !slices.Contains(great, Across) || !slices.Contains(great, Across-1) {
		t.Error(great)
	}
	if Across*Across < 1<<61 || (Across-1)*(Across-1) >= 1<<61 {
		t.Error(Across)
	}
}
