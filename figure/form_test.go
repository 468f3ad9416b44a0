package figure

import (
	"math"
	"math/rand"
	"testing"

	"heliograph/api"
	"heliograph/bar"
	"heliograph/disc"
	"heliograph/line"
	"heliograph/poly"
	"heliograph/ring"
	"heliograph/sample"
)

// hasOf is 10.1, for shapes that are valid: what a layer says of its Kind, and of a form what the last Part that has p says.
func hasOf(s api.Shape, p api.Pt) bool {
	switch s.Kind {
	case api.SDisc:
		return disc.Has(p, s.A, s.R)
	case api.SPoly:
		return poly.Has(p, s.L)
	case api.SLine:
		return line.Has(p, s.A, s.B, s.R)
	case api.SBar:
		return bar.Has(p, s.A, s.B, s.R)
	case api.SRing:
		return ring.Has(p, s.C, s.A, s.B, s.R)
	}
	found := false
	for _, part := range s.Parts {
		if hasOf(part.Shape, p) {
			found = part.Add
		}
	}
	return found
}

// classOf is 10.1 as hasOf, with what 10.2 says of sets that are added and removed.
func classOf(s api.Shape, b api.Box) int {
	switch s.Kind {
	case api.SDisc:
		return disc.Class(b, s.A, s.R)
	case api.SPoly:
		return poly.Class(b, s.L)
	case api.SLine:
		return line.Class(b, s.A, s.B, s.R)
	case api.SBar:
		return bar.Class(b, s.A, s.B, s.R)
	case api.SRing:
		return ring.Class(b, s.C, s.A, s.B, s.R)
	}
	was := api.Out
	for _, part := range s.Parts {
		added, removed := folded(was, classOf(part.Shape, b))
		was = removed
		if part.Add {
			was = added
		}
	}
	return was
}

// folded is 10.2: what becomes of was with a set of the class added, and with it removed.
func folded(was, class int) (added, removed int) {
	table := [3][3][2]int{
		api.Out:   {api.Out: {api.Out, api.Out}, api.Mixed: {api.Mixed, api.Out}, api.In: {api.In, api.Out}},
		api.Mixed: {api.Out: {api.Mixed, api.Mixed}, api.Mixed: {api.Mixed, api.Mixed}, api.In: {api.In, api.Out}},
		api.In:    {api.Out: {api.In, api.In}, api.Mixed: {api.In, api.Mixed}, api.In: {api.In, api.Out}},
	}
	return table[was][class][0], table[was][class][1]
}

// 10.2: all classes with all, and numbers that are no class.
func TestFold(t *testing.T) {
	for was := range 3 {
		for class := range 3 {
			added, removed := folded(was, class)
			if Fold(was, class, true) != added || Fold(was, class, false) != removed {
				t.Error(was, class, Fold(was, class, true), Fold(was, class, false))
			}
		}
	}
	none := []int{-1, 3, -2, 4, 5, -3, 100, -100, math.MaxInt, math.MinInt, 1 << 32, 1<<32 + 2, 1 << 62}
	for _, bad := range none {
		for _, other := range append(none, api.Out, api.Mixed, api.In) {
			for _, add := range []bool{true, false} {
				if Fold(bad, other, add) != api.Mixed || Fold(other, bad, add) != api.Mixed {
					t.Error(bad, other, add)
				}
			}
		}
	}
}

// agrees is whether a class may be said of a box that has the first or the second of two points in a set, or both, as the bits tell.
func agrees(class, bits int) bool {
	return class == api.Mixed || class == api.Out && bits == 0 || class == api.In && bits == 3
}

// 10.3: a folded class is right for all sets of which the two classes are, and it is Mixed only if neither of the others is.
func TestFoldSound(t *testing.T) {
	for was := range 3 {
		for class := range 3 {
			for _, add := range []bool{true, false} {
				out, in := true, true
				for first := range 4 {
					for second := range 4 {
						if !agrees(was, first) || !agrees(class, second) {
							continue
						}
						bits := first &^ second
						if add {
							bits = first | second
						}
						if !agrees(Fold(was, class, add), bits) {
							t.Error(was, class, add, first, second)
						}
						out, in = out && bits == 0, in && bits == 3
					}
				}
				if (out || in) && Fold(was, class, add) == api.Mixed {
					t.Error(was, class, add, "is Mixed")
				}
			}
		}
	}
}

// 10.1: Has and Class of each Kind are those of its layer.
func TestKinds(t *testing.T) {
	square := [][]api.Pt{{o, pt(9, 0), pt(9, 9), pt(0, 9)}, {pt(3, 3), pt(6, 3), pt(6, 6)}}
	for _, x := range []struct {
		s       api.Shape
		in, out []api.Pt
	}{
		{round(pt(3, 4), 5), []api.Pt{pt(3, 4), o, pt(8, 4), pt(3, -1)}, []api.Pt{pt(-1, 0), pt(9, 4), pt(3, -2)}},
		{area(square...), []api.Pt{o, pt(9, 9), pt(5, 0), pt(2, 4), pt(4, 3), pt(4, 6), pt(5, 5)}, []api.Pt{pt(-1, 0), pt(10, 9), pt(5, 4), pt(4, -1)}},
		{stroke(o, pt(8, 6), 5), []api.Pt{o, pt(4, 3), pt(-5, 0), pt(-3, 4), pt(11, 2), pt(12, 9)}, []api.Pt{pt(-6, 0), pt(-4, 4), pt(13, 9), pt(12, 2)}},
		{beam(o, pt(8, 6), 5), []api.Pt{o, pt(4, 3), pt(-3, 4), pt(11, 2), pt(5, 10)}, []api.Pt{pt(-1, 0), pt(-4, 4), pt(9, 6), pt(12, 2)}},
		{arc(o, pt(25, 0), pt(0, 25), 5), []api.Pt{pt(15, 20), pt(18, 24), pt(12, 16), pt(30, 0), pt(0, 20), pt(25, -5), pt(-5, 25)}, []api.Pt{o, pt(19, 24), pt(12, 15), pt(-15, 20), pt(15, -20), pt(25, -6)}},
		{arc(o, pt(0, 25), pt(25, 0), 5), []api.Pt{pt(-15, 20), pt(15, -20), pt(-18, -24), pt(30, 0)}, []api.Pt{o, pt(15, 20), pt(-19, -24)}},
	} {
		for _, p := range x.in {
			if !Has(x.s, p) || Class(x.s, sample.Dot(p)) == api.Out || Class(x.s, sample.Between(p, pt(-99, 99))) != api.Mixed {
				t.Error(x.s, p)
			}
		}
		for _, p := range x.out {
			if Has(x.s, p) || Class(x.s, sample.Dot(p)) == api.In || Class(x.s, bx(p.X-100, p.Y, p.X+100, p.Y)) == api.In {
				t.Error(x.s, p)
			}
		}
	}
}

// 10.1: as TestKinds, for all points and boxes in and around small shapes.
func TestKindsEverywhere(t *testing.T) {
	below := rand.New(rand.NewSource(103)).Int63n
	boxes, points := sample.Boxes(-3, 3), sample.Points(bx(-8, -8, 8, 8))
	classes, kinds := [3]int{}, [7]int{}
	for range 600 {
		s := sample.SmallShape(below, 4, 0)
		kinds[s.Kind]++
		for _, p := range points {
			if Has(s, p) != hasOf(s, p) {
				t.Fatal(s, p)
			}
		}
		for _, b := range boxes {
			want := classOf(s, b)
			classes[want]++
			if Class(s, b) != want {
				t.Fatal(s, b)
			}
		}
	}
	if min(classes[0], classes[1], classes[2]) < 1000 || min(kinds[1], kinds[2], kinds[3], kinds[4], kinds[5]) < 50 {
		t.Error("too few:", classes, kinds)
	}
}

// sized is a valid shape of any size up to Far, without Parts.
func sized(random *rand.Rand) api.Shape {
	below := random.Int63n
	a, b, r := sample.Point(below), sample.Point(below), 1+(below(api.Far)>>below(29))
	switch below(5) {
	case 0:
		return round(a, r)
	case 1:
		return area([]api.Pt{a, b, sample.Point(below)}, []api.Pt{sample.Point(below), a, sample.Point(below), sample.Point(below)})
	case 2:
		return stroke(a, b, r)
	case 3:
		if a != b {
			return beam(a, b, r)
		}
	}
	s := sample.AnyArc(below)
	return arc(s.C, s.A, s.E, r)
}

// 10.1: as TestKinds, of any size up to Far, and of forms of such shapes.
func TestAnySize(t *testing.T) {
	random := rand.New(rand.NewSource(104))
	classes, points := [3]int{}, [2]int{}
	for range 20000 {
		s := sized(random)
		for range random.Intn(3) {
			parts := []api.Part{{Add: random.Intn(3) > 0, Shape: s}}
			for range random.Intn(3) {
				parts = append(parts, api.Part{Add: random.Intn(3) > 0, Shape: sized(random)})
			}
			s = form(parts...)
		}
		if !Ok(s) {
			t.Fatal(s)
		}
		b := sample.Box(random.Int63n)
		p, class := pt(b.X0, b.Y1), classOf(s, b)
		if Has(s, p) != hasOf(s, p) || Class(s, b) != class || class == api.In && !hasOf(s, p) || class == api.Out && hasOf(s, p) {
			t.Fatal(s, b)
		}
		classes[class]++
		if hasOf(s, p) {
			points[1]++
		} else {
			points[0]++
		}
	}
	if min(classes[0], classes[1], classes[2], points[0], points[1]) < 500 {
		t.Error("too few:", classes, points)
	}
}

// 10.1: a form has a point if the last Part that has it is added.
func TestHasForm(t *testing.T) {
	a, b, c, p := round(o, 5), round(pt(4, 0), 5), area([]api.Pt{pt(-9, -1), pt(9, -1), pt(9, 1), pt(-9, 1)}), pt(2, 0)
	for bits := range 8 {
		part := func(i int, s api.Shape) api.Part { return api.Part{Add: bits&i != 0, Shape: s} }
		first, second, third := bits&1 != 0, bits&2 != 0, bits&4 != 0
		whole := form(part(1, a), part(2, b), part(4, c))
		for _, x := range []struct {
			p    api.Pt
			want bool
		}{
			{p, third}, {pt(-4, 0), third}, {pt(8, 1), third}, {pt(-9, 0), third},
			{pt(2, 2), second}, {pt(8, 3), second}, {pt(0, 3), second}, {pt(4, -5), second},
			{pt(-3, 2), first}, {pt(0, -5), first}, {pt(-2, -4), first},
			{pt(10, 0), false}, {pt(-9, 2), false}, {pt(0, 6), false}, {pt(far, far), false},
		} {
			if Has(whole, x.p) != x.want || Has(form(minus(a), plus(whole)), x.p) != x.want || Has(form(plus(round(o, 99)), minus(whole)), x.p) == x.want && x.p.X < far {
				t.Error(bits, x)
			}
		}
	}
	for _, x := range []struct {
		s    api.Shape
		want bool
	}{
		{form(), false}, {form(plus(a)), true}, {form(minus(a)), false}, {form(plus(a), plus(b)), true}, {form(plus(a), minus(b)), false}, {form(minus(b), plus(a)), true}, {form(plus(a), minus(b), plus(c)), true}, {form(plus(a), minus(b), plus(c), minus(a)), false},
		{form(plus(a), minus(form())), true}, {form(plus(a), minus(form(minus(b)))), true}, {form(plus(a), minus(form(plus(b), minus(c)))), true}, {form(plus(a), minus(form(plus(b), minus(c), plus(a)))), false}, {form(plus(a), plus(form(plus(b), minus(c)))), true}, {form(plus(form(plus(b), minus(c)))), false}, {form(minus(form(minus(a)))), false},
		{nested(8, a), true}, {form(plus(a), minus(nested(7, b))), false}, {form(minus(nested(7, b)), plus(a)), true}, {form(append(many(998, a).Parts, minus(c))...), false}, {form(append([]api.Part{minus(c)}, many(998, a).Parts...)...), true}, {form(plus(a), minus(round(pt(90, 90), 5))), true},
	} {
		if Has(x.s, p) != x.want {
			t.Errorf("Has(%s), want %v", text(x.s), x.want)
		}
		want := api.Out
		if x.want {
			want = api.In
		}
		if got := Class(x.s, bx(1, 0, 2, 0)); got != want {
			t.Errorf("Class(%s) = %d", text(x.s), got)
		}
	}
}

// 10.1: the class of a form is folded from those of its Parts, in their order, beginning with Out.
func TestClassForm(t *testing.T) {
	b := bx(-2, -2, 2, 2)
	all, some, none := round(o, 3), round(pt(3, 0), 2), round(pt(9, 0), 2)
	for _, x := range []struct {
		s    api.Shape
		want int
	}{
		{form(), api.Out}, {form(plus(all)), api.In}, {form(plus(some)), api.Mixed}, {form(plus(none)), api.Out}, {form(minus(all)), api.Out}, {form(minus(some)), api.Out}, {form(minus(none)), api.Out},
		{form(plus(all), plus(some)), api.In}, {form(plus(some), plus(all)), api.In}, {form(plus(some), plus(some)), api.Mixed}, {form(plus(all), plus(none)), api.In}, {form(plus(some), plus(none)), api.Mixed},
		{form(plus(all), minus(all)), api.Out}, {form(plus(all), minus(some)), api.Mixed}, {form(plus(all), minus(none)), api.In}, {form(plus(some), minus(all)), api.Out}, {form(plus(some), minus(some)), api.Mixed}, {form(plus(some), minus(none)), api.Mixed}, {form(minus(all), plus(some)), api.Mixed}, {form(minus(some), plus(all)), api.In},
		{form(plus(all), minus(some), plus(all)), api.In}, {form(plus(all), minus(some), plus(some)), api.Mixed}, {form(plus(all), minus(all), plus(some)), api.Mixed}, {form(plus(some), minus(all), minus(some)), api.Out}, {form(plus(all), minus(some), minus(all)), api.Out},
		{form(plus(form(plus(all), minus(some)))), api.Mixed}, {form(plus(all), plus(form(plus(all), minus(some)))), api.In}, {form(plus(all), minus(form(plus(some), minus(all)))), api.In}, {form(plus(all), minus(form(minus(all)))), api.In}, {form(plus(all), minus(form(plus(all), minus(some)))), api.Mixed}, {nested(8, all), api.In}, {nested(8, some), api.Mixed}, {nested(8, none), api.Out},
	} {
		if got := Class(x.s, b); got != x.want {
			t.Errorf("Class(%s) = %d, want %d", text(x.s), got, x.want)
		}
	}
}

// tally counts the classes of boxes, also those that are Out or Mixed although a Part that is added has all of them.
type tally struct {
	class   [3]int
	removed [2]int
}

// note counts a class.
func (n *tally) note(s api.Shape, b api.Box, class int) {
	n.class[class]++
	for _, part := range s.Parts {
		if class != api.In && part.Add && classOf(part.Shape, b) == api.In {
			n.removed[class]++
			return
		}
	}
}

// check checks that there was enough of all.
func (n *tally) check(t *testing.T, least int) {
	t.Helper()
	if min(n.class[0], n.class[1], n.class[2], n.removed[0], n.removed[1]) < least {
		t.Error("too few:", *n)
	}
}

// 10.1, 10.3: small forms have each of their points and no other, and Out and In hold for all whole points of small boxes, also where the forms are moved to either Far.
func TestFormsEverywhere(t *testing.T) {
	below := rand.New(rand.NewSource(105)).Int63n
	const size = 5
	list, points, counts := sample.FilledBoxes(-3, 3), sample.Points(bx(-3, -3, 3, 3)), tally{}
	for range 2500 {
		s := sample.SmallShape(below, size, 3)
		x, y := (far-size)*(below(3)-1), (far-size)*(below(3)-1)
		moved, inside := sample.MovedShape(s, x, y), map[api.Pt]int{}
		for _, p := range points {
			want := hasOf(s, p)
			if want {
				inside[p] = 1
			}
			if Has(s, p) != want || Has(moved, sample.Moved(p, x, y)) != want {
				t.Fatal(s, p, x, y)
			}
		}
		for _, f := range list {
			in, class := 0, Class(s, f.Box)
			for _, p := range f.Points {
				in += inside[p]
			}
			if in > 0 && class == api.Out || in < len(f.Points) && class == api.In || class != classOf(s, f.Box) {
				t.Fatal(s, f.Box, class, in)
			}
			if got := Class(moved, bx(f.Box.X0+x, f.Box.Y0+y, f.Box.X1+x, f.Box.Y1+y)); got != class {
				t.Fatal(s, f.Box, class, got, x, y)
			}
			counts.note(s, f.Box, class)
		}
	}
	counts.check(t, 1000)
}

// quarters is s where lengths are told in quarters.
func quarters(s api.Shape) api.Shape {
	four := func(p api.Pt) api.Pt { return pt(4*p.X, 4*p.Y) }
	fine := sample.MovedShape(s, 0, 0)
	fine.A, fine.B, fine.C, fine.R = four(s.A), four(s.B), four(s.C), 4*s.R
	for _, contour := range fine.L {
		for i := range contour {
			contour[i] = four(contour[i])
		}
	}
	for i := range fine.Parts {
		fine.Parts[i].Shape = quarters(fine.Parts[i].Shape)
	}
	return fine
}

// 10.3: Out and In hold for points between the whole ones: those of a grid four times as fine.
func TestClassBetween(t *testing.T) {
	below := rand.New(rand.NewSource(106)).Int63n
	list, points, counts := sample.Boxes(-2, 2), sample.Points(bx(-8, -8, 8, 8)), tally{}
	for range 500 {
		s := sample.SmallShape(below, 4, 2)
		fine, inside := quarters(s), map[api.Pt]bool{}
		for _, p := range points {
			inside[p] = hasOf(fine, p)
		}
		for _, b := range list {
			class := Class(s, b)
			counts.note(s, b, class)
			for _, p := range sample.Points(bx(4*b.X0, 4*b.Y0, 4*b.X1, 4*b.Y1)) {
				if inside[p] && class == api.Out || !inside[p] && class == api.In {
					t.Fatalf("Class(%v, %v) = %d, but %v quarters: %v", s, b, class, p, inside[p])
				}
			}
		}
	}
	counts.check(t, 100)
}

// onEdge is whether p is on an edge of a poly in s.
func onEdge(s api.Shape, p api.Pt) bool {
	for _, part := range s.Parts {
		if onEdge(part.Shape, p) {
			return true
		}
	}
	return s.Kind == api.SPoly && poly.Class(sample.Dot(p), s.L) == api.Mixed
}

// W2 of the document: what is In or Out stays so with finer boxes, down to single points, of which only those on the edges of polys are Mixed.
func TestFiner(t *testing.T) {
	below := rand.New(rand.NewSource(110)).Int63n
	list, counts := sample.Boxes(-2, 2), tally{}
	for range 1000 {
		s := sample.SmallShape(below, 4, 3)
		classes := map[api.Box]int{}
		for _, b := range list {
			classes[b] = Class(s, b)
		}
		for _, b := range list {
			counts.note(s, b, classes[b])
			for _, finer := range []api.Box{bx(b.X0, b.Y0, b.X1-1, b.Y1), bx(b.X0, b.Y0, b.X1, b.Y1-1), bx(b.X0+1, b.Y0, b.X1, b.Y1), bx(b.X0, b.Y0+1, b.X1, b.Y1)} {
				if class, ok := classes[finer]; ok && classes[b] != api.Mixed && class != classes[b] {
					t.Fatal(s, b, classes[b], finer, class)
				}
			}
			if p := pt(b.X0, b.Y0); b == sample.Dot(p) && classes[b] == api.Mixed && !onEdge(s, p) {
				t.Fatal(s, p)
			}
		}
	}
	counts.check(t, 100)
}

// 10.1: a box whose ends are exchanged has no point, in no layer.
func TestExchangedEnds(t *testing.T) {
	for _, b := range sample.Backward() {
		for _, s := range ordinary() {
			if Class(s, b) != api.Out || Class(form(plus(round(o, far)), minus(s)), b) != api.Out {
				t.Error(s, b)
			}
		}
	}
}
