package ring

import (
	"math"
	"math/big"
	"math/rand"
	"testing"

	"heliograph/api"
	"heliograph/sample"
)

const far = int64(api.Far)

func bx(x0, y0, x1, y1 int64) api.Box { return api.Box{X0: x0, Y0: y0, X1: x1, Y1: y1} }

func pt(x, y int64) api.Pt { return api.Pt{X: x, Y: y} }

// stroke is a stroke with radius r along the arc around c from a to e.
type stroke struct {
	c, a, e api.Pt
	r       int64
}

// moved is s, moved by by.
func (s stroke) moved(by api.Pt) stroke {
	return stroke{sample.Moved(s.c, by.X, by.Y), sample.Moved(s.a, by.X, by.Y), sample.Moved(s.e, by.X, by.Y), s.r}
}

// wider is s with another radius.
func (s stroke) wider(r int64) stroke {
	s.r = r
	return s
}

// ways is how often points and shapes can be turned or mirrored.
const ways = 8

// turned is p, turned about the origin by way quarters, and mirrored before if there are 4 or more.
func turned(p api.Pt, way int) api.Pt {
	if way >= 4 {
		p.X = -p.X
	}
	for range way % 4 {
		p = pt(-p.Y, p.X)
	}
	return p
}

// turned is s, turned as a point; what is counterclockwise is clockwise in a mirror.
func (s stroke) turned(way int) stroke {
	a, e := turned(s.a, way), turned(s.e, way)
	if way >= 4 {
		a, e = e, a
	}
	return stroke{turned(s.c, way), a, e, s.r}
}

func turnedBox(b api.Box, way int) api.Box {
	return sample.Between(turned(pt(b.X0, b.Y0), way), turned(pt(b.X1, b.Y1), way))
}

func movedBox(b api.Box, by api.Pt) api.Box {
	return bx(b.X0+by.X, b.Y0+by.Y, b.X1+by.X, b.Y1+by.Y)
}

// checkHas checks Has in all ways.
func checkHas(t *testing.T, p api.Pt, s stroke, want bool) {
	t.Helper()
	for way := range ways {
		q, u := turned(p, way), s.turned(way)
		if Has(q, u.c, u.a, u.e, u.r) != want {
			t.Errorf("Has(%v, %v), way %d, want %v", p, s, way, want)
		}
	}
}

// checkClass checks Class in all ways.
func checkClass(t *testing.T, b api.Box, s stroke, want int) {
	t.Helper()
	for way := range ways {
		u := s.turned(way)
		if got := Class(turnedBox(b, way), u.c, u.a, u.e, u.r); got != want {
			t.Errorf("Class(%v, %v), way %d, = %d, want %d", b, s, way, got, want)
		}
	}
}

// checkSector checks Sector in all ways; whatever the radius.
func checkSector(t *testing.T, p api.Pt, s stroke, want bool) {
	t.Helper()
	for way := range ways {
		q, u := turned(p, way), s.turned(way)
		if Sector(q, u.c, u.a, u.e) != want {
			t.Errorf("Sector(%v, %v), way %d, want %v", p, s, way, want)
		}
	}
}

// What holds of a point, as bits.
const (
	aroundA = 1 << iota
	aroundE
	leftOfA
	rightOfE
	farEnough
	nearEnough
	everything = 1<<iota - 1
	eitherEnd  = aroundA | aroundE
	bothSides  = leftOfA | rightOfE
	between    = farEnough | nearEnough
)

// cross is the sign of the cross product of p and q.
func cross(p, q [2]*big.Int) int {
	first, second := new(big.Int).Mul(p[0], q[1]), new(big.Int).Mul(p[1], q[0])
	return first.Cmp(second)
}

// seen is the vector from c to p as it is seen by one who looks from c to a: along, and to the left, both times the distance of a.
func seen(p, c, a api.Pt) [2]*big.Int {
	x, y, u, v := big.NewInt(a.X-c.X), big.NewInt(a.Y-c.Y), big.NewInt(p.X-c.X), big.NewInt(p.Y-c.Y)
	sum := func(a, b, c, d *big.Int) *big.Int {
		first, second := new(big.Int).Mul(a, b), new(big.Int).Mul(c, d)
		return first.Add(first, second)
	}
	return [2]*big.Int{sum(x, u, y, v), sum(x, v, new(big.Int).Neg(y), u)}
}

// lower is whether the direction of v is one of the second half of a turn.
func lower(v [2]*big.Int) bool {
	return v[1].Sign() < 0 || v[1].Sign() == 0 && v[0].Sign() < 0
}

// sectorOf is 9.1, by directions: p is in the sector if who turns counterclockwise from a sees it no later than e.
func sectorOf(p, c, a, e api.Pt) bool {
	if a == e || p == c {
		return true
	}
	p1, e1 := seen(p, c, a), seen(e, c, a)
	if lower(p1) != lower(e1) {
		return lower(e1)
	}
	return cross(p1, e1) >= 0
}

// sidesOf tells leftOfA and rightOfE of p.
func sidesOf(p api.Pt, s stroke) int {
	set := 0
	if seen(p, s.c, s.a)[1].Sign() >= 0 {
		set |= leftOfA
	}
	if seen(p, s.c, s.e)[1].Sign() <= 0 {
		set |= rightOfE
	}
	return set
}

// squared is the square of the distance between p and q, which are up to Far.
func squared(p, q api.Pt) int64 {
	return (p.X-q.X)*(p.X-q.X) + (p.Y-q.Y)*(p.Y-q.Y)
}

func (s stroke) empty() bool {
	return s.r < 1 || s.a == s.c || squared(s.a, s.c) != squared(s.e, s.c)
}

// covers is whether the sector has all that lies on these sides.
func (s stroke) covers(set int) bool {
	switch {
	case s.a == s.e:
		return true
	case seen(s.e, s.c, s.a)[1].Sign() < 0:
		return set&bothSides != 0
	}
	return set&bothSides == bothSides
}

// hasOf is 9.1 for a point of which all this holds.
func hasOf(p api.Pt, set int, s stroke) bool {
	return !s.empty() && (set&eitherEnd != 0 || set&between == between && sectorOf(p, s.c, s.a, s.e))
}

// classOf is 9.2 for a box of which some point, and every point, has this.
func classOf(some, every int, s stroke) int {
	switch {
	case s.empty():
		return api.Out
	case every&aroundA != 0 || every&aroundE != 0 || s.covers(every) && every&between == between:
		return api.In
	case some&eitherEnd != 0:
		return api.Mixed
	case !s.covers(some) || some&between != between:
		return api.Out
	}
	return api.Mixed
}

// smallSet tells all of p, where numbers are small: two roots that differ do so by far more than floating point numbers can be wrong.
func smallSet(p api.Pt, s stroke) int {
	set := sidesOf(p, s)
	if squared(p, s.a) <= s.r*s.r {
		set |= aroundA
	}
	if squared(p, s.e) <= s.r*s.r {
		set |= aroundE
	}
	radius, distance := math.Sqrt(float64(squared(s.a, s.c))), math.Sqrt(float64(squared(p, s.c)))
	if distance-radius+float64(s.r) >= -1e-9 {
		set |= farEnough
	}
	if distance-radius-float64(s.r) <= 1e-9 {
		set |= nearEnough
	}
	return set
}

// fine is how many bits lengths have behind the point: of distances up to Far, one that isn't exactly the sum of another and a whole number differs from it by more than 2^-100.
const fine = 128

// length is the root of a square.
func length(square int64) *big.Int {
	wide := big.NewInt(square)
	return wide.Sqrt(wide.Lsh(wide, 2*fine))
}

// fits is whether x, with what its parts have lost, is at most y.
func fits(x, y *big.Int) bool {
	return new(big.Int).Sub(x, y).Cmp(big.NewInt(4)) <= 0
}

// extent is from where to where the distances between a point and the points of a box reach.
type extent struct{ nearest, farthest *big.Int }

func extentOf(b api.Box, p api.Pt) extent {
	x, y := max(b.X0-p.X, p.X-b.X1, 0), max(b.Y0-p.Y, p.Y-b.Y1, 0)
	u, v := max(b.X1-p.X, p.X-b.X0), max(b.Y1-p.Y, p.Y-b.Y0)
	return extent{length(x*x + y*y), length(u*u + v*v)}
}

// measures are what the class of a box hangs on, whatever the radius.
type measures struct {
	b             api.Box
	s             stroke
	some, every   int
	atA, atE, atC extent
	radius        *big.Int
}

func measure(b api.Box, s stroke) measures {
	m := measures{b, s, 0, everything, extentOf(b, s.a), extentOf(b, s.e), extentOf(b, s.c), length(squared(s.a, s.c))}
	for _, p := range []api.Pt{pt(b.X0, b.Y0), pt(b.X1, b.Y0), pt(b.X0, b.Y1), pt(b.X1, b.Y1)} {
		set := sidesOf(p, s)
		m.some |= set
		m.every &= set
	}
	return m
}

// sets tells what holds of some and of every point of the box, with radius r.
func (m measures) sets(r int64) (some, every int) {
	width := new(big.Int).Lsh(big.NewInt(r), fine)
	outer := new(big.Int).Add(m.radius, width)
	some, every = m.some&bothSides, m.every&bothSides
	note := func(bit int, least, most bool) {
		if least {
			some |= bit
		}
		if most {
			every |= bit
		}
	}
	note(aroundA, fits(m.atA.nearest, width), fits(m.atA.farthest, width))
	note(aroundE, fits(m.atE.nearest, width), fits(m.atE.farthest, width))
	note(nearEnough, fits(m.atC.nearest, outer), fits(m.atC.farthest, outer))
	reaches := func(distance *big.Int) bool { return fits(m.radius, new(big.Int).Add(distance, width)) }
	note(farEnough, reaches(m.atC.farthest), reaches(m.atC.nearest))
	return some, every
}

// class is 9.2, with radius r.
func (m measures) class(r int64) int {
	some, every := m.sets(r)
	return classOf(some, every, m.s.wider(r))
}

// has is 9.1 for the one point of a box, with radius r.
func (m measures) has(r int64) bool {
	_, every := m.sets(r)
	return hasOf(pt(m.b.X0, m.b.Y0), every, m.s.wider(r))
}

// radii are those with which something may change, and others beside them.
func (m measures) radii() []int64 {
	var list []int64
	for _, distance := range []*big.Int{m.atA.nearest, m.atA.farthest, m.atE.nearest, m.atE.farthest, new(big.Int).Sub(m.radius, m.atC.nearest), new(big.Int).Sub(m.radius, m.atC.farthest)} {
		whole := new(big.Int).Rsh(new(big.Int).Abs(distance), fine).Int64()
		list = append(list, whole-1, whole, whole+1)
	}
	return list
}

// The ends of arcs around the origin with radii of 5 and 25.
var (
	o                            = pt(0, 0)
	east5, north5, west5, south5 = pt(5, 0), pt(0, 5), pt(-5, 0), pt(0, -5)
	east, north, west            = pt(25, 0), pt(0, 25), pt(-25, 0)
	quarter, rest, half, circle  = stroke{o, east, north, 5}, stroke{o, north, east, 5}, stroke{o, east, west, 5}, stroke{o, east, east, 5}
	// All but a narrow sector around the positive half of the y axis, and that sector.
	most, narrow = stroke{o, pt(-7, 24), pt(7, 24), 5}, stroke{o, pt(7, 24), pt(-7, 24), 5}
)

// 9.1: three points that are an arc, and three that are none.
func TestOk(t *testing.T) {
	low, high := pt(-far, -far), pt(far, far)
	cases := []struct {
		c, a, e api.Pt
		want    bool
	}{
		{o, east5, north5, true}, {o, east5, east5, true}, {o, east5, west5, true}, {o, east5, pt(3, 4), true}, {o, pt(3, 4), pt(-4, 3), true}, {o, pt(3, 4), pt(3, -4), true}, {pt(7, -2), pt(8, 0), pt(5, -3), true}, {o, pt(1, 0), pt(0, -1), true}, {o, pt(7, 4), pt(8, 1), true},
		{o, east5, pt(6, 0), false}, {o, east5, pt(4, 0), false}, {o, east5, pt(4, 4), false}, {o, east5, pt(5, 1), false}, {o, pt(3, 4), pt(4, 4), false}, {pt(7, -2), pt(8, 0), pt(5, -2), false}, {o, pt(7, 4), pt(8, 0), false}, {pt(1, 0), east5, west5, false}, {o, pt(3, 1), pt(2, 2), false},
		{o, o, o, false}, {o, o, east5, false}, {o, east5, o, false}, {east5, east5, north5, false}, {north5, east5, north5, false}, {pt(3, 4), pt(3, 4), pt(3, 4), false}, {high, high, high, false},
		{low, pt(far, -far), pt(-far, far), true}, {low, pt(far, -far), pt(-far, far-1), false}, {low, pt(far, -far), high, false}, {low, high, high, true}, {low, high, pt(far, far-1), false}, {low, pt(far, far-1), pt(far-1, far), true}, {low, pt(far, far-1), pt(far-1, far-1), false}, {o, high, low, true}, {o, pt(-far, far), high, true}, {o, pt(far, 0), pt(0, -far), true}, {o, pt(far, 0), pt(far, 1), false}, {o, pt(far, 0), pt(far-1, 0), false}, {pt(-far, 0), pt(far, 0), pt(far, 1), false}, {pt(-far, 0), pt(far, 1), pt(far, -1), true},
	}
	for _, x := range cases {
		for way := range ways {
			c, a, e := turned(x.c, way), turned(x.a, way), turned(x.e, way)
			if Ok(c, a, e) != x.want || Ok(c, e, a) != x.want {
				t.Errorf("Ok(%v, %v, %v), way %d, want %v", x.c, x.a, x.e, way, x.want)
			}
		}
	}
}

// 9.1: points in and off the sectors of arcs of all kinds, and on the lines through the centre and the ends.
func TestSector(t *testing.T) {
	list := func(numbers ...int64) []api.Pt {
		var points []api.Pt
		for i := 0; i < len(numbers); i += 2 {
			points = append(points, pt(numbers[i], numbers[i+1]))
		}
		return points
	}
	cases := []struct {
		c, a, e api.Pt
		in, off []api.Pt
	}{
		// A quarter of a turn, and three.
		{o, east5, north5, list(0, 0, 5, 0, 0, 5, 1, 1, 1, 0, 0, 1, 9, 0, 0, 9, 100, 1, 1, 100), list(-1, 9, 9, -1, -1, -1, -5, 0, 0, -5, -1, 0, 0, -1, 100, -1, -1, 100)},
		{o, north5, east5, list(0, 0, 5, 0, 0, 5, 1, 0, 0, 1, 9, 0, 0, 9, -1, 9, 9, -1, -1, -1, -5, 0, 0, -5), list(1, 1, 1, 100, 100, 1, 3, 4)},
		// Exactly half a turn.
		{o, east5, west5, list(0, 0, 5, 0, -5, 0, 1, 0, -1, 0, 9, 0, -9, 0, 0, 1, 100, 1, -100, 1), list(0, -1, 100, -1, -100, -1, 0, -5)},
		{o, west5, east5, list(0, 0, 5, 0, -5, 0, 9, 0, -9, 0, 0, -1, 100, -1, -100, -1), list(0, 1, 100, 1, -100, 1, 0, 5)},
		{o, pt(3, 4), pt(-3, -4), list(0, 0, 3, 4, -3, -4, 6, 8, -6, -8, 0, 1, -4, 3, -1, -1, 1, 2, 100, 134, -100, -133), list(1, 1, 4, -3, 100, 133, -100, -134, 0, -1)},
		// Little of a turn, and nearly a whole one.
		{o, pt(4, 3), pt(3, 4), list(0, 0, 4, 3, 3, 4, 1, 1, 8, 6, 6, 8, 5, 5, 8, 7), list(9, 6, 4, 2, 2, 4, -1, -1, -4, -3, -3, -4, 1, 0, 0, 1, -1, 0, 0, -1)},
		{o, pt(3, 4), pt(4, 3), list(0, 0, 4, 3, 3, 4, 8, 6, 6, 8, 9, 6, -1, -1, 1, 0, 0, 1, -4, -3, -3, -4, 4, 2, 2, 4), list(1, 1, 5, 5, 8, 7, 6, 7, 100, 100)},
		// Just more than half a turn, and just less.
		{o, pt(4, 3), pt(-3, -4), list(0, 0, 4, 3, -3, -4, -4, -3, 3, 4, 4, 4, -4, -4, 8, 6, -6, -8), list(1, -1, 4, 2, 5, 3, -3, -5, 0, -1)},
		{o, pt(4, 3), west5, list(0, 0, 4, 3, -5, 0, 0, 1, -1, 0, -9, 1, 8, 6), list(-1, -1, 8, 5, -4, -3, 5, 0, 1, 0)},
		// A whole turn.
		{o, pt(3, 4), pt(3, 4), list(0, 0, 3, 4, -3, -4, 1, 1, 1, -1, -1, 1, -1, -1, 100, 3, 4, 3, 3, 5), nil},
		// Another centre.
		{pt(10, 20), pt(15, 20), pt(10, 25), list(10, 20, 11, 21, 10, 90, 90, 20), list(9, 21, 11, 19, 0, 0, 9, 20, 10, 19)},
		// At Far: the directions beside the diagonal, and those of the ends.
		{o, pt(far, far-1), pt(far-1, far), list(0, 0, far, far, far, far-1, far-1, far, 1, 1), list(-far, -far, far, far-2, far-2, far, far-1, far-2, far-2, far-1, far, 0, 1-far, -far)},
		{o, pt(far-1, far), pt(far, far-1), list(0, 0, far, far-1, far-1, far, -far, -far, far, far-2, far-2, far, far-1, far-2, 1-far, -far), list(far, far, 1, 1, far-1, far-1)},
		{pt(-far, -far), pt(far, far), pt(far, far), list(-far, -far, far, -far, -far, far), nil},
		{pt(-far, -far), pt(far, far-1), pt(far-1, far), list(far, far, 0, 0, -far, -far), list(far, far-2, far-2, far, 1-far, -far)},
		{pt(-far, -far), pt(far, -far), pt(-far, far), list(far, far, -far, -far, far, -far), nil},
	}
	for _, x := range cases {
		for _, p := range x.in {
			checkSector(t, p, stroke{x.c, x.a, x.e, 0}, true)
		}
		for _, p := range x.off {
			checkSector(t, p, stroke{x.c, x.a, x.e, 0}, false)
		}
	}
}

// 9.1: a sector hangs on directions alone; and the circle is whole if e equals a, also if they equal c.
func TestSectorOfNoArc(t *testing.T) {
	for _, p := range sample.Points(bx(-3, -3, 3, 3)) {
		checkSector(t, p, stroke{o, east5, pt(0, 9), 0}, p.X >= 0 && p.Y >= 0)
		checkSector(t, p, stroke{o, pt(0, 9), east5, 0}, p.X <= 0 || p.Y <= 0)
		checkSector(t, p, stroke{o, east5, pt(9, 0), 0}, p.Y == 0)
		checkSector(t, p, stroke{o, o, o, 0}, true)
		checkSector(t, p, stroke{o, o, east5, 0}, p.Y <= 0)
		checkSector(t, p, stroke{o, east5, o, 0}, p.Y >= 0)
	}
}

// 9.1: points of the ring, on its edges, and beside them.
func TestHas(t *testing.T) {
	cases := []struct {
		p    api.Pt
		s    stroke
		want bool
	}{
		// A quarter of a turn: on the arc, at a distance of exactly R + r and R - r, and just beyond.
		{pt(15, 20), quarter, true}, {pt(24, 7), quarter, true}, {east, quarter, true}, {north, quarter, true}, {pt(18, 24), quarter, true}, {pt(24, 18), quarter, true}, {pt(19, 24), quarter, false}, {pt(18, 25), quarter, false}, {pt(12, 16), quarter, true}, {pt(16, 12), quarter, true}, {pt(11, 16), quarter, false}, {pt(12, 15), quarter, false},
		// On the lines through the centre and the ends.
		{pt(30, 0), quarter, true}, {pt(31, 0), quarter, false}, {pt(20, 0), quarter, true}, {pt(19, 0), quarter, false}, {pt(0, 30), quarter, true}, {pt(0, 31), quarter, false}, {pt(0, 20), quarter, true}, {pt(0, 19), quarter, false}, {o, quarter, false}, {west, quarter, false}, {pt(0, -25), quarter, false},
		// Outside the sector: in the disc around an end, on its edge, and in neither.
		{pt(25, -5), quarter, true}, {pt(25, -6), quarter, false}, {pt(28, -4), quarter, true}, {pt(29, -4), quarter, false}, {pt(22, -4), quarter, true}, {pt(21, -4), quarter, false}, {pt(22, -5), quarter, false}, {pt(30, -1), quarter, false}, {pt(20, -1), quarter, false}, {pt(-5, 25), quarter, true}, {pt(-6, 25), quarter, false}, {pt(-4, 28), quarter, true}, {pt(-1, 30), quarter, false}, {pt(-15, 20), quarter, false}, {pt(15, -20), quarter, false}, {pt(-15, -20), quarter, false},
		// Three quarters.
		{pt(-15, 20), rest, true}, {pt(-15, -20), rest, true}, {pt(15, -20), rest, true}, {pt(15, 20), rest, false}, {pt(-18, -24), rest, true}, {pt(-19, -24), rest, false}, {pt(-12, -16), rest, true}, {pt(-12, -15), rest, false}, {pt(-30, 0), rest, true}, {pt(-31, 0), rest, false}, {pt(-20, 0), rest, true}, {pt(-19, 0), rest, false}, {o, rest, false}, {pt(18, 24), rest, false}, {pt(12, 16), rest, false},
		{pt(5, 25), rest, true}, {pt(6, 25), rest, false}, {pt(4, 28), rest, true}, {pt(5, 24), rest, false}, {pt(25, 5), rest, true}, {pt(24, 5), rest, false}, {pt(25, 6), rest, false}, {pt(3, 21), rest, true}, {pt(3, 20), rest, false}, {pt(1, 30), rest, false}, {pt(30, 1), rest, false},
		// Half a turn.
		{north, half, true}, {pt(0, 30), half, true}, {pt(0, 31), half, false}, {pt(0, 20), half, true}, {pt(0, 19), half, false}, {pt(0, -25), half, false}, {pt(25, -5), half, true}, {pt(-25, -5), half, true}, {pt(-25, -6), half, false}, {pt(-28, -4), half, true}, {pt(-15, -20), half, false}, {pt(30, -1), half, false}, {pt(-20, -1), half, false}, {pt(-30, 0), half, true}, {pt(-31, 0), half, false}, {o, half, false},
		// A whole turn.
		{pt(15, -20), circle, true}, {pt(-18, -24), circle, true}, {pt(-19, -24), circle, false}, {pt(12, -16), circle, true}, {pt(11, -16), circle, false}, {o, circle, false}, {pt(1, 0), circle, false}, {pt(-30, 0), circle, true}, {pt(30, -1), circle, false}, {pt(20, -1), circle, true}, {pt(7, 24), circle, true},
		// r is equal to R.
		{o, quarter.wider(25), true}, {pt(1, 1), quarter.wider(25), true}, {pt(30, 40), quarter.wider(25), true}, {pt(31, 40), quarter.wider(25), false}, {pt(-1, 1), quarter.wider(25), true}, {pt(-1, 0), quarter.wider(25), false}, {pt(-1, -1), quarter.wider(25), false}, {o, quarter.wider(24), false}, {pt(1, 0), quarter.wider(24), true}, {o, circle.wider(25), true}, {o, circle.wider(24), false}, {pt(-1, -1), circle.wider(25), true}, {pt(-50, 0), circle.wider(25), true}, {pt(-50, -1), circle.wider(25), false}, {o, rest.wider(25), true}, {pt(1, 1), rest.wider(24), false},
		// r is greater than R.
		{o, quarter.wider(30), true}, {pt(33, 44), quarter.wider(30), true}, {pt(34, 44), quarter.wider(30), false}, {pt(-5, 0), quarter.wider(30), true}, {pt(-5, -1), quarter.wider(30), true}, {pt(-5, -5), quarter.wider(30), false}, {pt(-4, -4), quarter.wider(30), true}, {pt(-3, -12), quarter.wider(30), false}, {pt(-33, -44), rest.wider(30), true}, {pt(-34, -44), rest.wider(30), false}, {o, rest.wider(30), true}, {pt(33, 44), rest.wider(30), false}, {o, circle.wider(99), true}, {pt(-124, 0), circle.wider(99), true}, {pt(-124, 1), circle.wider(99), false},
		// Little of a turn, and nearly a whole one.
		{pt(3, 3), stroke{o, pt(4, 3), pt(3, 4), 1}, true}, {pt(4, 4), stroke{o, pt(4, 3), pt(3, 4), 1}, true}, {pt(2, 2), stroke{o, pt(4, 3), pt(3, 4), 1}, false}, {pt(5, 5), stroke{o, pt(4, 3), pt(3, 4), 1}, false}, {pt(5, 3), stroke{o, pt(4, 3), pt(3, 4), 1}, true}, {pt(3, 2), stroke{o, pt(4, 3), pt(3, 4), 1}, false}, {pt(2, 5), stroke{o, pt(4, 3), pt(3, 4), 1}, false}, {east5, stroke{o, pt(4, 3), pt(3, 4), 1}, false}, {pt(-4, -3), stroke{o, pt(4, 3), pt(3, 4), 1}, false},
		{east5, stroke{o, pt(3, 4), pt(4, 3), 1}, true}, {west5, stroke{o, pt(3, 4), pt(4, 3), 1}, true}, {pt(2, 5), stroke{o, pt(3, 4), pt(4, 3), 1}, true}, {pt(4, 2), stroke{o, pt(3, 4), pt(4, 3), 1}, true}, {pt(3, 2), stroke{o, pt(3, 4), pt(4, 3), 1}, false}, {pt(5, 5), stroke{o, pt(3, 4), pt(4, 3), 1}, false}, {pt(4, 4), stroke{o, pt(3, 4), pt(4, 3), 1}, true}, {north, most, false}, {pt(0, -25), most, true}, {pt(2, 24), most, true}, {pt(1, 24), most, false}, {north, narrow, true}, {pt(0, 30), narrow, true}, {pt(0, 31), narrow, false}, {pt(8, 24), narrow, true}, {pt(0, -25), narrow, false},
		// R is a root that isn't whole, so that no whole point is at a distance of exactly R + r or R - r.
		{pt(1, 3), stroke{o, pt(2, 1), pt(-1, 2), 1}, true}, {pt(1, 1), stroke{o, pt(2, 1), pt(-1, 2), 1}, true}, {pt(0, 1), stroke{o, pt(2, 1), pt(-1, 2), 1}, false}, {pt(2, 3), stroke{o, pt(2, 1), pt(-1, 2), 1}, false}, {pt(0, 3), stroke{o, pt(2, 1), pt(-1, 2), 1}, true}, {pt(3, 2), stroke{o, pt(2, 1), pt(-1, 2), 1}, false}, {o, stroke{o, pt(2, 1), pt(-1, 2), 2}, false}, {pt(0, 1), stroke{o, pt(2, 1), pt(-1, 2), 2}, true}, {pt(1, 4), stroke{o, pt(2, 1), pt(-1, 2), 2}, true}, {pt(2, 4), stroke{o, pt(2, 1), pt(-1, 2), 2}, false}, {pt(3, 3), stroke{o, pt(2, 1), pt(-1, 2), 2}, false}, {o, stroke{o, pt(2, 1), pt(-1, 2), 3}, true},
		{o, stroke{o, pt(1, 1), pt(1, 1), 1}, false}, {pt(-1, 0), stroke{o, pt(1, 1), pt(1, 1), 1}, true}, {pt(-2, -1), stroke{o, pt(1, 1), pt(1, 1), 1}, true}, {pt(-2, -2), stroke{o, pt(1, 1), pt(1, 1), 1}, false}, {o, stroke{o, pt(1, 1), pt(1, 1), 2}, true}, {pt(1, 0), stroke{o, pt(1, 0), pt(1, 0), 1}, true}, {o, stroke{o, pt(1, 0), pt(1, 0), 1}, true}, {pt(-2, 0), stroke{o, pt(1, 0), pt(1, 0), 1}, true}, {pt(-2, 1), stroke{o, pt(1, 0), pt(1, 0), 1}, false},
		// No arc, and no radius.
		{east, stroke{o, east, pt(26, 0), 5}, false}, {pt(15, 20), stroke{o, east, pt(0, 24), 5}, false}, {o, stroke{o, o, o, 5}, false}, {east, stroke{o, o, east, 5}, false}, {east, stroke{o, east, o, 5}, false}, {pt(15, 20), quarter.wider(0), false}, {east, quarter.wider(-5), false}, {pt(-15, 20), circle.wider(-1), false},
	}
	for _, x := range cases {
		checkHas(t, x.p, x.s, x.want)
	}
}

// 9.1: arcs, points and radii up to Far, and points beside circles by the least distances.
func TestHasAtFar(t *testing.T) {
	low, high := pt(-far, -far), pt(far, far)
	turn := stroke{low, pt(far, -far), pt(-far, far), 1}
	diagonal := stroke{low, high, high, 1}
	// A circle with the radius of m, 1, where m is 2^30 - 2: it passes the point m, 1 itself, and those of m + 1, 1 and m - 1, 1 at just less than 1.
	flat := stroke{low, pt(1-far, far-2), pt(1-far, far-2), 1}
	sliver, gap := stroke{o, pt(far, far-1), pt(far-1, far), 1}, stroke{o, pt(far-1, far), pt(far, far-1), 1}
	cases := []struct {
		p    api.Pt
		s    stroke
		want bool
	}{
		{pt(far, -far), turn, true}, {pt(-far, far), turn, true}, {pt(far-1, -far), turn, true}, {pt(far-2, -far), turn, false}, {pt(-far, far-2), turn, false}, {pt(far, 1-far), turn, true}, {low, turn, false}, {high, turn, false}, {high, turn.wider(444758426), true}, {high, turn.wider(444758425), false}, {o, turn.wider(314491700), true}, {o, turn.wider(314491699), false}, {low, turn.wider(1 << 30), true}, {low, turn.wider(1<<30 - 1), false}, {pt(1-far, 1-far), turn.wider(1<<30 - 1), true},
		{high, diagonal, true}, {pt(far-1, far), diagonal, true}, {pt(far-1, far-1), diagonal, false}, {pt(far-1, far-1), diagonal.wider(2), true}, {pt(far, far-2), diagonal, false}, {pt(far, far-2), diagonal.wider(2), true}, {low, diagonal.wider(sample.Across - 1), false}, {low, diagonal.wider(sample.Across), true}, {pt(far, -far), diagonal.wider(444758426), true}, {pt(far, -far), diagonal.wider(444758425), false},
		{pt(far-2, 1-far), flat, true}, {pt(far-1, 1-far), flat, true}, {pt(far-1, 2-far), flat, false}, {pt(far-3, 1-far), flat, true}, {pt(far-3, -far), flat, false}, {pt(far, 1-far), flat, false}, {pt(far, 1-far), flat.wider(2), true}, {pt(far-4, 1-far), flat, false},
		{high, sliver, true}, {pt(far-1, far-1), sliver, true}, {pt(far-2, far-2), sliver, false}, {pt(far-2, far-2), sliver.wider(2), false}, {pt(far-2, far-2), sliver.wider(3), true}, {low, sliver, false}, {o, sliver.wider(far), false}, {o, sliver.wider(759250125), true}, {o, sliver.wider(759250124), false}, {pt(-1, -1), sliver.wider(759250125), false}, {pt(-1, -1), sliver.wider(759250126), true}, {pt(far, far-2), sliver, true}, {pt(far, far-3), sliver, false},
		{high, gap, true}, {low, gap, true}, {pt(far, -far), gap, true}, {pt(-far, far), gap, true}, {pt(0, -far), gap, false}, {pt(far-2, far-2), gap.wider(2), false}, {o, gap.wider(759250124), false}, {o, gap.wider(759250125), true}, {pt(0, -far), gap.wider(222379213), true}, {pt(0, -far), gap.wider(222379212), false},
		// 3, 4 and 5 times the same: at a distance of exactly R + r and R - r.
		{pt(3<<27, 4<<27), stroke{o, pt(far, 0), pt(0, far), 1 << 27}, true}, {pt(3<<27+1, 4<<27), stroke{o, pt(far, 0), pt(0, far), 1 << 27}, false}, {pt(3<<27, 4<<27), stroke{o, pt(far, 0), pt(0, far), 1<<27 - 1}, false}, {pt(3<<26, 4<<26), stroke{o, pt(far, 0), pt(0, far), 3 << 26}, true}, {pt(3<<26-1, 4<<26), stroke{o, pt(far, 0), pt(0, far), 3 << 26}, false}, {pt(3<<26, 4<<26), stroke{o, pt(far, 0), pt(0, far), 3<<26 - 1}, false},
	}
	for _, x := range cases {
		checkHas(t, x.p, x.s, x.want)
	}
}

// 9.2: boxes in a ring, across it, touching it, and beside it.
func TestClass(t *testing.T) {
	cases := []struct {
		b    api.Box
		s    stroke
		want int
	}{
		// Within a quarter of a turn: from a distance of exactly R - r to exactly R + r, and just beyond.
		{bx(14, 19, 16, 21), quarter, api.In}, {bx(12, 16, 18, 24), quarter, api.In}, {bx(11, 16, 18, 24), quarter, api.Mixed}, {bx(12, 15, 18, 24), quarter, api.Mixed}, {bx(12, 16, 19, 24), quarter, api.Mixed}, {bx(12, 16, 18, 25), quarter, api.Mixed}, {bx(20, 0, 25, 5), quarter, api.In}, {bx(20, 0, 24, 18), quarter, api.In}, {bx(0, 20, 18, 24), quarter, api.In}, {bx(19, 0, 24, 18), quarter, api.Mixed}, {bx(20, 0, 24, 19), quarter, api.Mixed},
		// Across the edges of the sector.
		{bx(20, -1, 24, 18), quarter, api.Mixed}, {bx(-1, 20, 18, 24), quarter, api.Mixed}, {bx(20, -20, 24, 18), quarter, api.Mixed}, {bx(-20, -20, 18, 24), quarter, api.Mixed},
		// In the disc around an end, also outside the sector, and just beyond its edge.
		{bx(22, -4, 28, 4), quarter, api.In}, {bx(21, -4, 28, 4), quarter, api.Mixed}, {bx(22, -4, 29, 4), quarter, api.Mixed}, {bx(22, -5, 28, 4), quarter, api.Mixed}, {bx(21, -3, 29, 3), quarter, api.In}, {bx(22, -4, 28, -1), quarter, api.In}, {bx(-4, 22, 4, 28), quarter, api.In}, {bx(-4, 22, 4, 29), quarter, api.Mixed}, {bx(-4, 22, -1, 28), quarter, api.In}, {bx(25, -5, 25, 0), quarter, api.In}, {bx(25, -6, 25, 0), quarter, api.Mixed},
		// All of it in the ring, but partly in a disc alone, and partly in the sector alone; or in both discs, but in neither alone.
		{bx(24, -3, 26, 6), quarter, api.Mixed}, {bx(24, -3, 26, 4), quarter, api.In}, {bx(24, 0, 26, 6), quarter, api.In}, {bx(-3, 23, 6, 26), quarter, api.Mixed}, {bx(-1, 0, 1, 0), stroke{o, pt(4, 3), pt(-4, 3), 5}, api.Mixed}, {bx(-1, 0, 0, 0), stroke{o, pt(4, 3), pt(-4, 3), 5}, api.In}, {bx(0, 0, 1, 0), stroke{o, pt(4, 3), pt(-4, 3), 5}, api.In}, {bx(-1, 1, 1, 4), stroke{o, pt(4, 3), pt(-4, 3), 4}, api.In},
		// All corners in the ring, with the hole, or beyond the outer edge, or off the sector between them.
		{bx(-15, -20, 15, 20), circle, api.Mixed}, {bx(-16, -15, 16, 15), circle, api.Mixed}, {bx(24, -18, 31, 18), circle, api.Mixed}, {bx(24, -18, 24, 18), circle, api.In}, {bx(24, -18, 30, 0), circle, api.Mixed}, {bx(-7, 22, 7, 26), most, api.Mixed}, {bx(-8, 24, 8, 24), most, api.Mixed},
		// Beyond the outer distance: touching it, and just beside it.
		{bx(18, 24, 40, 40), quarter, api.Mixed}, {bx(19, 24, 40, 40), quarter, api.Out}, {bx(18, 25, 40, 40), quarter, api.Out}, {bx(30, 0, 40, 9), quarter, api.Mixed}, {bx(31, 0, 40, 9), quarter, api.Out}, {bx(31, -9, 40, 9), quarter, api.Out}, {bx(-9, 30, 9, 40), quarter, api.Mixed}, {bx(-9, 31, 9, 40), quarter, api.Out}, {bx(30, -9, 40, 9), circle, api.Mixed}, {bx(31, -9, 40, 9), circle, api.Out}, {bx(-40, -40, -18, -24), circle, api.Mixed}, {bx(-40, -40, -19, -24), circle, api.Out}, {bx(60, 60, 61, 61), circle, api.Out},
		// Within the inner distance: touching it, and just beside it.
		{bx(5, 5, 12, 16), quarter, api.Mixed}, {bx(5, 5, 12, 15), quarter, api.Out}, {bx(5, 5, 11, 16), quarter, api.Out}, {bx(-10, -10, 10, 10), circle, api.Out}, {bx(-12, -16, 12, 16), circle, api.Mixed}, {bx(-12, -15, 12, 16), circle, api.Mixed}, {bx(-12, -15, 12, 15), circle, api.Out}, {bx(-11, -16, 11, 16), circle, api.Out}, {bx(-19, -1, 19, 1), circle, api.Out}, {bx(-20, 0, 0, 0), circle, api.Mixed}, {bx(-19, 0, 19, 0), circle, api.Out}, {bx(0, 0, 14, 14), half, api.Out}, {bx(0, 0, 15, 14), half, api.Mixed},
		// Off the sector.
		{bx(-26, -3, -24, 3), quarter, api.Out}, {bx(15, -20, 16, -19), quarter, api.Out}, {bx(-40, -40, -6, -6), quarter, api.Out}, {bx(-40, -40, 40, -6), quarter, api.Out}, {bx(-40, -40, -6, 40), quarter, api.Out}, {bx(-40, -40, -5, 40), quarter, api.Mixed}, {bx(-40, -40, 40, -5), quarter, api.Mixed}, {bx(-40, -40, 0, 15), quarter, api.Mixed}, {bx(6, 6, 40, 40), rest, api.Out}, {bx(5, 6, 40, 40), rest, api.Mixed}, {bx(6, 5, 40, 40), rest, api.Mixed}, {bx(-15, -40, 15, -1), half, api.Out}, {bx(-40, -40, 40, -6), half, api.Out}, {bx(-40, -40, 40, -5), half, api.Mixed}, {bx(-1, 22, 1, 26), most, api.Out}, {bx(-1, -40, 1, -4), narrow, api.Out},
		// Corners on the lines through the ends: not off the sector, although without a point of the ring.
		{bx(-40, -5, 15, 0), quarter, api.Mixed}, {bx(-40, -5, 15, -1), quarter, api.Out}, {bx(0, -40, 5, 15), quarter, api.Mixed}, {bx(-5, -40, 0, 15), quarter, api.Mixed}, {bx(-5, -40, -1, 15), quarter, api.Out}, {bx(6, 0, 19, 40), rest, api.Mixed}, {bx(6, 1, 19, 40), rest, api.Out}, {bx(0, 6, 40, 19), rest, api.Mixed}, {bx(1, 6, 40, 19), rest, api.Out}, {bx(-15, -40, 15, 0), half, api.Mixed},
		// No point of the ring, but no rule that makes it Out.
		{bx(-40, -40, 40, -1), narrow, api.Mixed}, {bx(-1, -40, 1, -3), narrow, api.Mixed}, {bx(-40, -40, 5, 5), quarter, api.Mixed}, {bx(-40, -40, 19, 0), quarter, api.Mixed}, {bx(-1, -15, 1, 26), most, api.Mixed}, {bx(-1, -4, 1, 26), most, api.Mixed}, {bx(-1, 1, 1, 26), most, api.Mixed}, {bx(-1, 4, 1, 26), most, api.Out}, {bx(30, -2, 31, 1), quarter.wider(4), api.Out}, {bx(-90, -24, 19, 3), half.wider(5), api.Mixed}, {bx(-19, -30, 19, 3), half, api.Mixed},
		// A great arc: within the half plane beside one end, or the other, or both, or neither, although in the sector.
		{bx(-15, -20, 0, -20), most, api.In}, {bx(0, -20, 15, -20), most, api.In}, {bx(-5, -26, 5, -24), most, api.In}, {bx(-15, -20, 15, -20), most, api.Mixed}, {bx(-15, -20, 5, -20), most, api.In}, {bx(-15, -20, 6, -20), most, api.Mixed}, {bx(-30, 0, -20, 0), most, api.In}, {bx(20, 0, 30, 0), most, api.In}, {bx(-24, -7, -20, 7), rest, api.In}, {bx(-7, -24, 7, -20), rest, api.In}, {bx(-18, 0, 0, 24), rest, api.Mixed}, {bx(-18, 16, -12, 24), rest, api.In}, {bx(-18, 20, 0, 24), rest, api.In}, {bx(-18, 20, 1, 24), rest, api.Mixed},
		// Half a turn, and the other half.
		{bx(-18, 20, 18, 24), half, api.In}, {bx(20, 0, 30, 0), half, api.In}, {bx(-30, 0, -20, 0), half, api.In}, {bx(-24, -1, -20, 18), half, api.Mixed}, {bx(-24, 0, -20, 18), half, api.In}, {bx(-18, -24, 18, -20), half, api.Out}, {bx(-18, 20, 18, 24), stroke{o, west, east, 5}, api.Out}, {bx(-18, -24, 18, -20), stroke{o, west, east, 5}, api.In},
		// The ring within a box, a wide ring around one, and r equal to R and greater than R.
		{bx(-99, -99, 99, 99), quarter, api.Mixed}, {bx(-30, -30, 30, 30), circle, api.Mixed}, {bx(-99, -99, 99, 99), circle.wider(50), api.Mixed}, {bx(-18, -24, 18, 24), circle.wider(5), api.Mixed}, {bx(-30, -40, 30, 40), circle.wider(25), api.In}, {bx(-30, -40, 30, 41), circle.wider(25), api.Mixed}, {bx(-30, -40, 30, 40), circle.wider(24), api.Mixed}, {bx(0, 0, 30, 40), quarter.wider(25), api.In}, {bx(0, 0, 1, 1), quarter.wider(24), api.Mixed}, {bx(-1, 0, 30, 40), quarter.wider(25), api.Mixed}, {bx(0, 0, 33, 44), quarter.wider(30), api.In}, {bx(-4, -2, -2, 2), quarter.wider(30), api.In}, {bx(-9, -9, -5, -5), quarter.wider(30), api.Out}, {bx(-9, -9, -4, -4), quarter.wider(30), api.Mixed}, {bx(-5, -5, 5, 5), circle.wider(30), api.In}, {bx(-40, -30, 0, 0), rest.wider(25), api.In}, {bx(-40, -30, 0, 1), rest.wider(25), api.In}, {bx(-40, -30, 1, 1), rest.wider(25), api.Mixed}, {bx(0, 0, 0, 0), circle.wider(24), api.Out}, {bx(0, 0, 1, 0), circle.wider(24), api.Mixed},
		// Boxes of one point.
		{bx(15, 20, 15, 20), quarter, api.In}, {bx(12, 16, 12, 16), quarter, api.In}, {bx(11, 16, 11, 16), quarter, api.Out}, {bx(18, 24, 18, 24), quarter, api.In}, {bx(19, 24, 19, 24), quarter, api.Out}, {bx(0, 0, 0, 0), quarter, api.Out}, {bx(25, -5, 25, -5), quarter, api.In}, {bx(25, -6, 25, -6), quarter, api.Out}, {bx(30, -1, 30, -1), quarter, api.Out}, {bx(-15, 20, -15, 20), rest, api.In}, {bx(15, 20, 15, 20), rest, api.Out}, {bx(0, 30, 0, 30), quarter, api.In}, {bx(-20, 0, -20, 0), half, api.In},
		// Boxes of one line.
		{bx(20, 0, 30, 0), quarter, api.In}, {bx(19, 0, 30, 0), quarter, api.Mixed}, {bx(20, 0, 31, 0), quarter, api.Mixed}, {bx(0, 20, 0, 30), quarter, api.In}, {bx(0, -30, 0, 30), quarter, api.Mixed}, {bx(15, 14, 15, 25), quarter, api.In}, {bx(15, 13, 15, 25), quarter, api.Mixed}, {bx(15, 14, 15, 26), quarter, api.Mixed}, {bx(15, 0, 15, 13), quarter, api.Out}, {bx(15, 26, 15, 99), quarter, api.Out}, {bx(30, -40, 30, 40), circle, api.Mixed}, {bx(31, -40, 31, 40), circle, api.Out}, {bx(-40, 30, 40, 30), quarter, api.Mixed}, {bx(-40, -40, -40, 40), rest, api.Out},
		// R is a root that isn't whole.
		{bx(0, 2, 1, 3), stroke{o, pt(2, 1), pt(-1, 2), 1}, api.In}, {bx(0, 1, 1, 3), stroke{o, pt(2, 1), pt(-1, 2), 1}, api.Mixed}, {bx(1, 1, 1, 3), stroke{o, pt(2, 1), pt(-1, 2), 1}, api.In}, {bx(1, 1, 2, 3), stroke{o, pt(2, 1), pt(-1, 2), 1}, api.Mixed}, {bx(2, 3, 9, 9), stroke{o, pt(2, 1), pt(-1, 2), 1}, api.Out}, {bx(1, 3, 9, 9), stroke{o, pt(2, 1), pt(-1, 2), 1}, api.Mixed}, {bx(0, 0, 0, 1), stroke{o, pt(2, 1), pt(-1, 2), 1}, api.Out}, {bx(-1, -1, 0, 1), stroke{o, pt(1, 3), pt(1, 3), 1}, api.Out}, {bx(-2, -1, 0, 1), stroke{o, pt(1, 3), pt(1, 3), 1}, api.Mixed}, {bx(-1, -1, 0, 1), stroke{o, pt(2, 2), pt(2, 2), 1}, api.Out}, {bx(-2, 0, 0, 0), stroke{o, pt(2, 2), pt(2, 2), 1}, api.Mixed}, {bx(-1, 0, 0, 0), stroke{o, pt(1, 1), pt(1, 1), 1}, api.Mixed}, {bx(-1, 0, 0, 0), stroke{o, pt(1, 1), pt(1, 1), 2}, api.In},
		// No arc, and no radius.
		{bx(24, -1, 26, 1), stroke{o, east, pt(24, 0), 5}, api.Out}, {bx(-99, -99, 99, 99), stroke{o, east, pt(0, 24), 5}, api.Out}, {bx(0, 0, 0, 0), stroke{o, o, o, 5}, api.Out}, {bx(24, 0, 26, 1), stroke{o, o, east, 5}, api.Out}, {bx(24, 0, 26, 1), stroke{o, east, o, 5}, api.Out}, {bx(14, 19, 16, 21), quarter.wider(0), api.Out}, {bx(25, 0, 25, 0), quarter.wider(-5), api.Out}, {bx(-99, -99, 99, 99), circle.wider(-1), api.Out},
	}
	for _, x := range cases {
		checkClass(t, x.b, x.s, x.want)
	}
}

// 9.2: boxes at either Far, and rings that are as great as they can be.
func TestClassAtFar(t *testing.T) {
	low, high := pt(-far, -far), pt(far, far)
	whole := bx(-far, -far, far, far)
	turn, diagonal := stroke{low, pt(far, -far), pt(-far, far), 1}, stroke{low, high, high, 1}
	flat := stroke{low, pt(1-far, far-2), pt(1-far, far-2), 1}
	sliver, gap := stroke{o, pt(far, far-1), pt(far-1, far), 1}, stroke{o, pt(far-1, far), pt(far, far-1), 1}
	cases := []struct {
		b    api.Box
		s    stroke
		want int
	}{
		{whole, turn, api.Mixed}, {whole, turn.wider(1 << 30), api.In}, {whole, turn.wider(1<<30 - 1), api.Mixed}, {bx(far-1, far-1, far, far), turn.wider(444758426), api.In}, {bx(far-1, far-1, far, far), turn.wider(444758425), api.Mixed}, {bx(far, far, far, far), turn.wider(444758425), api.Out}, {bx(-far, -far, far-2, -far), turn, api.Out}, {bx(-far, -far, far-1, -far), turn, api.Mixed}, {bx(far-1, -far, far, -far), turn, api.In}, {bx(far-1, -far, far, 1-far), turn, api.In}, {bx(far-2, -far, far, 1-far), turn, api.Mixed}, {bx(far-1, -far, far, 46340-far), turn, api.In}, {bx(far-1, -far, far, 46341-far), turn, api.Mixed}, {bx(far, far, far, far), turn, api.Out}, {bx(-far, -far, 0, 0), turn, api.Out}, {bx(0, 0, far, far), turn, api.Mixed}, {bx(0, 0, far, far), turn.wider(444758426), api.In}, {bx(-1, -1, far, far), turn.wider(314491699), api.Mixed},
		{whole, diagonal, api.Mixed}, {whole, diagonal.wider(sample.Across), api.In}, {whole, diagonal.wider(sample.Across - 1), api.Mixed}, {bx(-far, -far, far, far-1), diagonal, api.Mixed}, {bx(-far, -far, far, far-2), diagonal, api.Out}, {bx(-far, -far, far-1, far-1), diagonal, api.Out}, {bx(far-1, far-1, far, far), diagonal.wider(2), api.In}, {bx(far-1, far-1, far, far), diagonal, api.Mixed}, {bx(-far, -far, -far, -far), diagonal.wider(sample.Across - 1), api.Out},
		{bx(-far, -far, far-3, 1-far), flat, api.Mixed}, {bx(-far, -far, far-3, -far), flat, api.Out}, {bx(far-3, 1-far, far-1, 1-far), flat, api.In}, {bx(far-3, -far, far-1, 1-far), flat, api.Mixed}, {bx(far-1, 1-far, far, far), flat, api.Mixed}, {bx(far-1, 2-far, far, far), flat, api.Out}, {bx(far, 1-far, far, far), flat, api.Out},
		{whole, sliver, api.Mixed}, {bx(far-1, far-1, far, far), sliver, api.In}, {bx(far-2, far-1, far, far), sliver, api.Mixed}, {bx(far, far, far, far), sliver, api.In}, {bx(far-1, far, far, far), sliver, api.In}, {bx(-far, -far, 0, 0), sliver, api.Mixed}, {bx(-far, -far, -1, 0), sliver, api.Mixed}, {bx(-far, -far, -far, -far), sliver, api.Out}, {bx(-far, -far, far-2, far-2), sliver, api.Mixed}, {bx(0, -far, far-2, -1), sliver, api.Out}, {bx(0, 0, far-2, far-2), sliver, api.Out}, {bx(0, 0, far, far-3), sliver, api.Out},
		{bx(1, 1, far-2, far-2), gap, api.Out}, {bx(-far, -far, -far, -far), gap, api.In}, {bx(-far, -far, 1-far, 1-far), gap, api.In}, {bx(-far, -far, 2-far, 2-far), gap, api.Mixed}, {bx(-far, -far, 2-far, 2-far), gap.wider(3), api.Mixed}, {whole, gap, api.Mixed}, {bx(far, far, far, far), gap, api.In}, {bx(-far, -far, far, far-2), gap, api.Mixed}, {bx(0, 0, 0, 0), gap.wider(759250124), api.Out}, {bx(0, 0, 0, 0), gap.wider(759250125), api.In},
		{bx(3<<27, 4<<27, 3<<27, 4<<27), stroke{o, pt(far, 0), pt(0, far), 1 << 27}, api.In}, {bx(3<<26, 4<<26, 3<<27, 4<<27), stroke{o, pt(far, 0), pt(0, far), 3 << 26}, api.In}, {bx(3<<26, 4<<26, 3<<27, 4<<27), stroke{o, pt(far, 0), pt(0, far), 3<<26 - 1}, api.Mixed}, {bx(0, 0, 3<<26, 4<<26), stroke{o, pt(far, 0), pt(0, far), 3 << 26}, api.Mixed}, {bx(0, 0, 3<<26, 4<<26), stroke{o, pt(far, 0), pt(0, far), 3<<26 - 1}, api.Out},
	}
	for _, x := range cases {
		checkClass(t, x.b, x.s, x.want)
	}
}

// 9.1, 9.2: a ring is empty if its points are no arc, or if its radius is below 1, whatever the square of its radius.
func TestEmpty(t *testing.T) {
	points := []api.Pt{pt(0, 0), pt(3, -4), pt(4, 3), pt(far, far), pt(-far, far), pt(far, 0)}
	check := func(s stroke) {
		for _, p := range append(points, pt((s.a.X+s.e.X)/2, (s.a.Y+s.e.Y)/2)) {
			checkHas(t, p, s, false)
			checkClass(t, sample.Dot(p), s, api.Out)
			checkClass(t, sample.Between(p, s.a), s, api.Out)
		}
		checkClass(t, bx(-far, -far, far, far), s, api.Out)
	}
	arcs := 0
	for _, c := range points {
		for _, a := range points {
			for _, e := range points {
				for _, r := range sample.NoRadii() {
					check(stroke{c, a, e, r})
				}
				if Ok(c, a, e) {
					arcs++
					continue
				}
				for _, r := range append(sample.GreatRadii(), 1, 5, 10) {
					check(stroke{c, a, e, r})
				}
			}
		}
	}
	if arcs < 30 {
		t.Error("too few arcs:", arcs)
	}
}

// 9.1, 9.2: radii have no upper bound, and the greatest ones reach every point.
func TestGreatRadius(t *testing.T) {
	list, arcs := sample.Scattered(), 0
	for _, c := range list {
		for _, a := range list {
			for _, e := range list {
				s := stroke{c, a, e, 1}
				if s.empty() {
					continue
				}
				arcs++
				p := list[arcs%len(list)]
				dot, b := measure(sample.Dot(p), s), measure(sample.Between(p, pt(1, 1)), s)
				for _, r := range sample.GreatRadii() {
					if Has(p, c, a, e, r) != dot.has(r) {
						t.Errorf("Has(%v, %v)", p, s.wider(r))
					}
					if got, want := Class(b.b, c, a, e, r), b.class(r); got != want {
						t.Errorf("Class(%v, %v) = %d, want %d", b.b, s.wider(r), got, want)
					}
				}
			}
		}
	}
	if arcs < 400 {
		t.Error("too few arcs:", arcs)
	}
}

// smallArcs are arcs of all kinds, around the origin, from a start in an eighth of the plane; the ways that checkHas and checkClass try bring it elsewhere.
func smallArcs(size int64) []stroke {
	var list []stroke
	sample.Arcs(bx(0, 0, size, size), bx(-size, -size, size, size), func(a, e api.Pt) {
		if a.Y <= a.X {
			list = append(list, stroke{o, a, e, 0})
		}
	})
	return list
}

// 9.1: Has and Sector for all points in and around small rings.
func TestHasEverywhere(t *testing.T) {
	points := sample.Points(bx(-8, -8, 8, 8))
	for _, s := range smallArcs(5) {
		for _, p := range points {
			checkSector(t, p, s, sectorOf(p, s.c, s.a, s.e))
			for r := int64(-1); r <= 8; r++ {
				s = s.wider(r)
				checkHas(t, p, s, hasOf(p, smallSet(p, s), s))
			}
		}
		if t.Failed() {
			t.FailNow()
		}
	}
}

// tally counts the classes, and the boxes that are Mixed although all of their whole points are in the ring, or none of them.
type tally struct {
	class      [3]int
	full, none int
}

// checkBoxes checks Class for the boxes, which lie in the area, against all of their whole points; the ring and the boxes are moved by by. The points of a box that are nearest to and farthest from a centre or an end are whole, and what holds of all corners and the two sides of a line holds of all points.
func checkBoxes(t *testing.T, area api.Box, list []sample.Filled, s stroke, by api.Pt, counts *tally) {
	t.Helper()
	sets, inside := map[api.Pt]int{}, map[api.Pt]int{}
	for _, p := range sample.Points(area) {
		sets[p] = smallSet(p, s)
		if hasOf(p, sets[p], s) {
			inside[p] = 1
		}
	}
	u := s.moved(by)
	for _, f := range list {
		in, some, every := 0, 0, everything
		for _, p := range f.Points {
			in += inside[p]
			some |= sets[p]
			every &= sets[p]
		}
		want := classOf(some, every, s)
		if got := Class(movedBox(f.Box, by), u.c, u.a, u.e, u.r); got != want {
			t.Fatalf("Class(%v, %v), moved by %v, = %d, want %d", f.Box, s, by, got, want)
		}
		if in > 0 && want == api.Out || in < len(f.Points) && want == api.In {
			t.Fatalf("Class(%v, %v) is %d, with %d of %d points in the ring", f.Box, s, want, in, len(f.Points))
		}
		counts.class[want]++
		if want == api.Mixed && in == len(f.Points) {
			counts.full++
		}
		if want == api.Mixed && in == 0 {
			counts.none++
		}
	}
}

// 9.2, 9.3: all small boxes in, across, beside and around small rings.
func TestClassEverywhere(t *testing.T) {
	list, counts := sample.FilledBoxes(-2, 2), tally{}
	for _, s := range smallArcs(4) {
		for _, c := range sample.Points(bx(-3, -3, 3, 3)) {
			for r := int64(0); r <= 5; r++ {
				checkBoxes(t, bx(-2, -2, 2, 2), list, s.moved(c).wider(r), o, &counts)
			}
		}
	}
	if min(counts.class[api.Out], counts.class[api.Mixed], counts.class[api.In], counts.full, counts.none) < 10000 {
		t.Error("too few of a class:", counts)
	}
}

// 9.2, 9.3: small boxes and rings at either Far.
func TestEverywhereAtFar(t *testing.T) {
	list, counts := sample.FilledBoxes(0, 3), tally{}
	area := bx(0, 0, 3, 3)
	for _, c := range sample.Points(area) {
		sample.Arcs(bx(-c.X, -c.Y, 3-c.X, 3-c.Y), bx(-c.X, -c.Y, 3-c.X, 3-c.Y), func(a, e api.Pt) {
			for r := int64(1); r <= 3; r++ {
				for _, corner := range []api.Pt{pt(-far, -far), pt(-far, far-3), pt(far-3, -far), pt(far-3, far-3)} {
					checkBoxes(t, area, list, stroke{o, a, e, r}.moved(c), corner, &counts)
				}
			}
		})
	}
	if min(counts.class[api.Out], counts.class[api.Mixed], counts.class[api.In]) < 10000 {
		t.Error("too few of a class:", counts)
	}
}

// quarters is s where lengths are told in quarters.
func (s stroke) quarters() stroke {
	return stroke{pt(4*s.c.X, 4*s.c.Y), pt(4*s.a.X, 4*s.a.Y), pt(4*s.e.X, 4*s.e.Y), 4 * s.r}
}

// 9.3: Out and In hold for points between the whole ones: those of a grid four times as fine.
func TestClassBetween(t *testing.T) {
	list, points := sample.Boxes(-1, 2), sample.Points(bx(-4, -4, 8, 8))
	for _, s := range smallArcs(3) {
		for _, c := range sample.Points(bx(-2, -2, 2, 2)) {
			for r := int64(1); r <= 3; r++ {
				u := s.moved(c).wider(r)
				fine, inside := u.quarters(), map[api.Pt]bool{}
				for _, p := range points {
					inside[p] = hasOf(p, smallSet(p, fine), fine)
				}
				for _, b := range list {
					class := Class(b, u.c, u.a, u.e, u.r)
					for _, p := range sample.Points(bx(4*b.X0, 4*b.Y0, 4*b.X1, 4*b.Y1)) {
						if inside[p] && class == api.Out || !inside[p] && class == api.In {
							t.Fatalf("Class(%v, %v) = %d, but %v quarters: %v", b, u, class, p, inside[p])
						}
					}
				}
			}
		}
	}
}

// 9.1: a ring has the points at a distance of at most r from its arc: all of the discs around whole points of arcs with a radius of 25; and the other whole points of their circle only if they are near an end.
func TestHasDiscs(t *testing.T) {
	onArc := list25()
	for _, a := range onArc {
		for _, e := range onArc {
			s := stroke{o, a, e, 5}
			for _, p := range onArc {
				if !sectorOf(p, o, a, e) {
					if squared(p, a) > 25 && squared(p, e) > 25 && Has(p, o, a, e, 5) {
						t.Errorf("Has(%v, %v)", p, s)
					}
					continue
				}
				for _, step := range sample.Points(bx(-5, -5, 5, 5)) {
					if squared(step, o) <= 25 && !Has(sample.Moved(p, step.X, step.Y), o, a, e, 5) {
						t.Errorf("Has(%v, moved by %v, %v) = false", p, step, s)
					}
				}
			}
		}
	}
}

// list25 are the whole points at a distance of 25.
func list25() []api.Pt {
	var list []api.Pt
	for _, p := range sample.Points(bx(-25, -25, 25, 25)) {
		if squared(p, o) == 625 {
			list = append(list, p)
		}
	}
	return list
}

// 9.1, 9.2, 9.3: arcs and boxes of any size up to Far, and radii that just reach their nearest or farthest points, or don't; moved and turned.
func TestAnySize(t *testing.T) {
	random := rand.New(rand.NewSource(91))
	classes, points := [3]int{}, [2]int{}
	for range 4000 {
		arc := sample.AnyArc(random.Int63n)
		s := stroke{arc.C, arc.A, arc.E, 1}
		ends := []api.Pt{s.a, s.e, s.c, sample.Point(random.Int63n)}
		b := sample.Beside(random.Int63n, ends[random.Intn(4)], ends[random.Intn(4)])
		p := pt(b.X0, b.Y1)
		all, dot := measure(b, s), measure(sample.Dot(p), s)
		checkSector(t, p, s, sectorOf(p, s.c, s.a, s.e))
		way, by := random.Intn(ways), room(random, b, s)
		for _, r := range append(append(all.radii(), dot.radii()...), 1+random.Int63n(1<<31)) {
			u := s.wider(r)
			want, has := all.class(r), dot.has(r)
			classes[want]++
			if has {
				points[1]++
			} else {
				points[0]++
			}
			moved := u.moved(by).turned(way)
			q, c := turned(sample.Moved(p, by.X, by.Y), way), turnedBox(movedBox(b, by), way)
			if got, there := Has(p, u.c, u.a, u.e, r), Has(q, moved.c, moved.a, moved.e, r); got != has || there != has {
				t.Fatalf("Has(%v, %v) = %v, and %v for way %d and %v, want %v", p, u, got, there, way, by, has)
			}
			if got, there := Class(b, u.c, u.a, u.e, r), Class(c, moved.c, moved.a, moved.e, r); got != want || there != want {
				t.Fatalf("Class(%v, %v) = %d, and %d for way %d and %v, want %d", b, u, got, there, way, by, want)
			}
		}
	}
	if min(classes[api.Out], classes[api.Mixed], classes[api.In], points[0], points[1]) < 5000 {
		t.Error("too few of a class:", classes, points)
	}
}

// room returns a step by which b and s can be moved without leading beyond Far.
func room(random *rand.Rand, b api.Box, s stroke) api.Pt {
	step := func(numbers ...int64) int64 {
		first, last := -2*far, 2*far
		for _, v := range numbers {
			first, last = max(first, -far-v), min(last, far-v)
		}
		return first + random.Int63n(last-first+1)
	}
	return pt(step(b.X0, b.X1, s.c.X, s.a.X, s.e.X), step(b.Y0, b.Y1, s.c.Y, s.a.Y, s.e.Y))
}

// 9.1, 9.2: where R is a root of any size, the whole points that are nearest to the edges of a ring, on either side. With a vector of (m, n) for R, the point (m + r, n + j) passes the outer edge by 2 * j * n + j^2 - 2 * r * (R - m), and (m - r, n - j) the inner one by 2 * j * n - j^2 - 2 * r * (R - m), divided by the sum of the lengths compared; the radii are those where that changes its sign.
func TestNarrowly(t *testing.T) {
	random := rand.New(rand.NewSource(92))
	far2, narrow, count := pt(far, far), 0, 0
	for range 3000 {
		m, n := 1<<20+random.Int63n(1<<29-1<<20), 4+random.Int63n(1<<(2+random.Intn(12)))
		j := 1 + random.Int63n(n/4)
		c := pt(-far, -far)
		s := stroke{c, sample.Moved(c, n, m), sample.Moved(c, n, m), 1}
		excess := length(m*m + n*n)
		excess.Sub(excess, new(big.Int).Lsh(big.NewInt(m), fine))
		for _, side := range []int64{1, -1} {
			// The least radius for which the point is in the ring.
			least := new(big.Int).Lsh(big.NewInt(2*j*n+side*j*j), fine-1)
			r := least.Div(least, excess).Int64() + 1
			if r < 2 || r > m/2 {
				continue
			}
			for step := int64(-1); step <= 0; step++ {
				u, want := s.wider(r+step), step == 0
				p := sample.Moved(c, m+side*u.r, n+side*j)
				if measure(sample.Dot(p), u).has(u.r) != want {
					t.Fatalf("%v isn't where it should be beside %v", p, u)
				}
				count++
				if (math.Abs(math.Sqrt(float64(squared(p, c)))-math.Sqrt(float64(squared(u.a, c)))) <= float64(u.r)) != want {
					narrow++
				}
				checkHas(t, p, u, want)
				corner, class := c, api.Out
				if side > 0 {
					corner = far2
				}
				if want {
					class = api.Mixed
				}
				checkClass(t, sample.Between(p, corner), u, class)
			}
		}
		if t.Failed() {
			t.FailNow()
		}
	}
	// Floating point numbers are too coarse for many of them.
	if count < 2000 || narrow < count/10 {
		t.Error("too few:", count, narrow)
	}
}

// triple is a direction in which a step of a whole length leads from a whole point to another one.
func triple(random *rand.Rand) (step api.Pt, size int64) {
	m, n := 2+random.Int63n(1000), 1+random.Int63n(1000)
	return pt(m*m-n*n, 2*m*n), m*m + n*n
}

// times is p, so often.
func times(p api.Pt, n int64) api.Pt { return pt(p.X*n, p.Y*n) }

// 9.1, 9.2: points at a distance of exactly R + r and R - r, of any size: each of them just fails with a radius less by 1, or one step away from the arc; and boxes whose nearest or farthest points they are.
func TestExactly(t *testing.T) {
	random := rand.New(rand.NewSource(93))
	found := [2]int{}
	for range 20000 {
		step, size := triple(random)
		if step.X <= 0 {
			continue
		}
		radius := 1 + random.Int63n((far/2-2)/size)
		width := 1 + random.Int63n(radius)
		space := far - 2 - (radius+width)*size
		c := pt(random.Int63n(2*space+1)-space, random.Int63n(2*space+1)-space)
		at := func(way int, n int64) api.Pt {
			p := times(turned(step, way), n)
			return sample.Moved(c, p.X, p.Y)
		}
		// Another direction than that of p is 1 to 7 ways away.
		way := random.Intn(ways)
		a, e := at((way+1+random.Intn(7))%ways, radius), at((way+1+random.Intn(7))%ways, radius)
		s, p, q, v := stroke{c, a, e, width * size}, at(way, radius+width), at(way, radius-width), turned(step, way)
		in := sectorOf(p, c, a, e)
		if in {
			found[1]++
		} else {
			found[0]++
		}
		checkExact(t, s, p, q, pt(sample.Sign(v.X), sample.Sign(v.Y)), in)
		if t.Failed() {
			t.FailNow()
		}
	}
	if min(found[0], found[1]) < 1000 {
		t.Error("too few:", found)
	}
}

// checkExact checks the points p and q on the edges of a ring, in the direction of step from its centre, but not in those of its ends; they are in the sector, or not.
func checkExact(t *testing.T, s stroke, p, q, step api.Pt, in bool) {
	t.Helper()
	less := s.wider(s.r - 1)
	checkHas(t, p, s, in)
	checkHas(t, p, less, false)
	checkHas(t, sample.Moved(p, step.X, 0), s, false)
	checkHas(t, sample.Moved(p, 0, step.Y), s, false)
	corner := pt(step.X*far, step.Y*far)
	beyond, before := sample.Between(p, corner), sample.Between(s.c, q)
	checkClass(t, beyond, less, api.Out)
	checkClass(t, sample.Between(sample.Moved(p, step.X, 0), corner), s, api.Out)
	checkClass(t, sample.Between(sample.Moved(p, 0, step.Y), corner), s, api.Out)
	checkClass(t, before, less, api.Out)
	if in {
		checkClass(t, beyond, s, api.Mixed)
	}
	if q == s.c {
		// R is r: the centre is on the inner edge of every sector.
		checkHas(t, q, s, true)
		checkHas(t, q, less, false)
		return
	}
	checkHas(t, q, s, in)
	checkHas(t, q, less, false)
	checkHas(t, sample.Moved(q, -step.X, 0), s, false)
	checkHas(t, sample.Moved(q, 0, -step.Y), s, false)
	checkClass(t, sample.Between(s.c, sample.Moved(q, -step.X, 0)), s, api.Out)
	if in {
		checkClass(t, before, s, api.Mixed)
	}
	s.e = s.a
	across := sample.Between(p, q)
	checkClass(t, across, s, api.In)
	checkClass(t, across, s.wider(s.r-1), api.Mixed)
	checkClass(t, sample.Between(sample.Moved(p, step.X, 0), q), s, api.Mixed)
	checkClass(t, sample.Between(p, sample.Moved(q, 0, -step.Y)), s, api.Mixed)
}

// 9.2: a box whose ends are exchanged has no point, and so none of any ring.
func TestExchangedEnds(t *testing.T) {
	for _, b := range sample.Backward() {
		for _, s := range append(smallArcs(3), quarter, rest, half, circle, most, narrow) {
			for _, r := range []int64{0, 1, 2, 5, far, sample.Across, math.MaxInt64} {
				if got := Class(b, s.c, s.a, s.e, r); got != api.Out {
					t.Errorf("Class(%v, %v) = %d", b, s.wider(r), got)
				}
			}
		}
	}
}

// 9.4: no call panics, whatever the order and the size of the numbers.
func TestNoPanic(t *testing.T) {
	try := func(b api.Box, p, c, a, e api.Pt, r int64) {
		Ok(c, a, e)
		Sector(p, c, a, e)
		Has(p, c, a, e, r)
		if class := Class(b, c, a, e, r); class != api.Out && class != api.Mixed && class != api.In {
			t.Fatal("class", class)
		}
	}
	sample.Wild(rand.New(rand.NewSource(94)).Int63n, func(b api.Box, p [4]api.Pt, r int64) {
		c, a := p[1], p[2]
		try(b, p[0], c, a, p[3], r)
		try(b, p[0], c, a, a, r)
		// The end across from the start, which is on the same circle unless numbers wrap round.
		try(b, p[0], c, a, pt(2*c.X-a.X, 2*c.Y-a.Y), r)
	})
}
