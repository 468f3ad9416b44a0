// Package sample makes the numbers, points, boxes, arcs and radii that the tests of several packages try.
package sample

import (
	"heliograph/api"
)

// Across is the least radius that reaches from (-Far, -Far) to (Far, Far), whose distance is the root of 2^61.
const Across = 1518500250

// Boxes returns all boxes, also of one line or one point, whose coordinates are from low to high.
func Boxes(low, high int64) []api.Box {
	var list []api.Box
	for x0 := low; x0 <= high; x0++ {
		for x1 := x0; x1 <= high; x1++ {
			for y0 := low; y0 <= high; y0++ {
				for y1 := y0; y1 <= high; y1++ {
					list = append(list, api.Box{X0: x0, Y0: y0, X1: x1, Y1: y1})
				}
			}
		}
	}
	return list
}

// Points returns all points of b whose coordinates are whole.
func Points(b api.Box) []api.Pt {
	var list []api.Pt
	for x := b.X0; x <= b.X1; x++ {
		for y := b.Y0; y <= b.Y1; y++ {
			list = append(list, api.Pt{X: x, Y: y})
		}
	}
	return list
}

// Filled is a box with all of its points whose coordinates are whole.
type Filled struct {
	Box    api.Box
	Points []api.Pt
}

// FilledBoxes returns those of Boxes, filled.
func FilledBoxes(low, high int64) []Filled {
	var list []Filled
	for _, b := range Boxes(low, high) {
		list = append(list, Filled{b, Points(b)})
	}
	return list
}

// Segments calls do with the ends of all segments from whole points of the one box to whole points of the other.
func Segments(from, to api.Box, do func(a, c api.Pt)) {
	for _, a := range Points(from) {
		for _, c := range Points(to) {
			do(a, c)
		}
	}
}

// Dot returns the box of one point.
func Dot(p api.Pt) api.Box {
	return Between(p, p)
}

// Between returns the box with these opposite corners.
func Between(p, q api.Pt) api.Box {
	return api.Box{X0: min(p.X, q.X), Y0: min(p.Y, q.Y), X1: max(p.X, q.X), Y1: max(p.Y, q.Y)}
}

// Moved returns p, moved by x and y.
func Moved(p api.Pt, x, y int64) api.Pt {
	return api.Pt{X: p.X + x, Y: p.Y + y}
}

// Sign returns -1 if v is negative, and otherwise 1.
func Sign(v int64) int64 {
	if v < 0 {
		return -1
	}
	return 1
}

// Number returns a coordinate of any size up to Far, often one at or beside Far or 0. What it returns hangs on below, which returns numbers from 0 to n - 1.
func Number(below func(n int64) int64) int64 {
	switch below(6) {
	case 0:
		return api.Far - below(3)
	case 1:
		return below(3) - api.Far
	case 2:
		return below(7) - 3
	}
	return (below(2*api.Far+1) - api.Far) >> below(30)
}

// Point returns a point of two Numbers.
func Point(below func(n int64) int64) api.Pt {
	return api.Pt{X: Number(below), Y: Number(below)}
}

// Box returns the box between two Points, often one of one line or one point.
func Box(below func(n int64) int64) api.Box {
	p, q := Point(below), Point(below)
	if below(3) == 0 {
		q.X = p.X
	}
	if below(3) == 0 {
		q.Y = p.Y
	}
	return Between(p, q)
}

// Beside returns a box, a corner of which is often beside an end or the middle of the segment from a to c. What it returns hangs on below, as that of Number.
func Beside(below func(n int64) int64, a, c api.Pt) api.Box {
	if below(3) == 0 {
		return Box(below)
	}
	p := api.Pt{X: around(below, a.X, c.X, (a.X+c.X)/2), Y: around(below, a.Y, c.Y, (a.Y+c.Y)/2)}
	q := api.Pt{X: around(below, p.X, a.X), Y: around(below, p.Y, c.Y)}
	return Between(p, q)
}

// around returns a number at most 2 away from one of the given ones, or a Number.
func around(below func(n int64) int64, numbers ...int64) int64 {
	if below(3) == 0 {
		return Number(below)
	}
	v := numbers[below(int64(len(numbers)))] + below(5) - 2
	return min(max(v, -api.Far), api.Far)
}

// Slant is a slanted segment from A to C = A + Along, with a vector Normal across it, to the left, whose length is exactly R.
type Slant struct {
	A, C, Along, Normal api.Pt
	R                   int64
}

// AnySlant returns a Slant of any size, which may be of one point. No point at a distance of at most R from it is beyond Far - 2. What it returns hangs on below, as that of Number.
func AnySlant(below func(n int64) int64) Slant {
	for {
		m, n := 2+below(1000), 1+below(1000)
		x, y, length := (m*m-n*n)*(1-2*below(2)), 2*m*n*(1-2*below(2)), m*m+n*n
		times := 1 + below(api.Far/length/4+1)
		long := below(api.Far/length/4 + 1)
		room := api.Far - 2 - length*(long+times)
		if x == 0 || room < 0 {
			continue
		}
		a := api.Pt{X: below(2*room+1) - room, Y: below(2*room+1) - room}
		along := api.Pt{X: x * long, Y: y * long}
		return Slant{A: a, C: Moved(a, along.X, along.Y), Along: along, Normal: api.Pt{X: -y * times, Y: x * times}, R: length * times}
	}
}

// Arcs calls do with the ends of all arcs around the origin from whole points of the one box counterclockwise to whole points of the other.
func Arcs(from, to api.Box, do func(a, e api.Pt)) {
	Segments(from, to, func(a, e api.Pt) {
		if a != (api.Pt{}) && a.X*a.X+a.Y*a.Y == e.X*e.X+e.Y*e.Y {
			do(a, e)
		}
	})
}

// Arc is an arc around C from A counterclockwise to E, or the whole circle if E equals A.
type Arc struct{ C, A, E api.Pt }

// AnyArc returns an Arc of any size, often half a turn, a whole one, or one of nearly nothing or nearly a whole turn; no point of the three is beyond Far. What it returns hangs on below, as that of Number.
func AnyArc(below func(n int64) int64) Arc {
	for {
		a, e := vectors(below)
		x, wide := place(below, a.X, e.X)
		y, high := place(below, a.Y, e.Y)
		if a == (api.Pt{}) || !wide || !high {
			continue
		}
		c := api.Pt{X: x, Y: y}
		return Arc{C: c, A: Moved(a, x, y), E: Moved(e, x, y)}
	}
}

// vectors returns two vectors of the same length, no coordinate of which exceeds 2^30.
func vectors(below func(n int64) int64) (a, e api.Pt) {
	number := func(bits int64) int64 { return below(2<<bits+1) - 1<<bits }
	all := 29 - below(30)*below(2)
	bits := below(all + 1)
	z, w := api.Pt{X: number(all - bits), Y: number(below(all - bits + 1))}, api.Pt{X: number(bits), Y: number(below(bits + 1))}
	if below(3) == 0 {
		w.Y = below(3) - 1
	}
	// As complex numbers, z times w and z times the conjugate of w.
	a, e = api.Pt{X: z.X*w.X - z.Y*w.Y, Y: z.X*w.Y + z.Y*w.X}, api.Pt{X: z.X*w.X + z.Y*w.Y, Y: z.Y*w.X - z.X*w.Y}
	if below(8) == 0 {
		e = a
	}
	for range below(4) {
		e = api.Pt{X: -e.Y, Y: e.X}
	}
	return a, e
}

// place returns a coordinate of a centre, from which no step in the list leads beyond Far, often the first or the last of them, or false if there is none.
func place(below func(n int64) int64, steps ...int64) (int64, bool) {
	first, last := int64(-api.Far), int64(api.Far)
	for _, step := range steps {
		first, last = max(first, -api.Far-step), min(last, api.Far-step)
	}
	switch {
	case first > last:
		return 0, false
	case below(4) == 0:
		return first, true
	case below(4) == 0:
		return last, true
	}
	return first + below(last-first+1), true
}

// Extremes returns 0, and numbers beside it, at Far, just beyond it, and at the ends of 64 bits.
func Extremes() []int64 {
	return []int64{0, 1, -1, api.Far, api.Far + 1, -api.Far, -api.Far - 1, 1 << 31, -1 << 31, 1 << 62, -1 << 62, 1<<63 - 1, 1<<63 - 2, -1 << 63, -1<<63 + 1}
}

// Any returns a number of any size, often one of the Extremes. What it returns hangs on below, as that of Number.
func Any(below func(n int64) int64) int64 {
	if below(3) == 0 {
		return below(1<<32)<<32 | below(1<<32)
	}
	list := Extremes()
	return list[below(int64(len(list)))]
}

// Wild calls do with boxes, points and radii of any size, many of them of Extremes; the ends of most boxes are exchanged. What it hands on hangs on below, as that of Number.
func Wild(below func(n int64) int64, do func(b api.Box, p [4]api.Pt, r int64)) {
	number := func() int64 { return Any(below) }
	point := func() api.Pt { return api.Pt{X: number(), Y: number()} }
	for range 300000 {
		do(api.Box{X0: number(), Y0: number(), X1: number(), Y1: number()}, [4]api.Pt{point(), point(), point(), point()}, number())
	}
	list := Extremes()
	for _, x := range list {
		for _, y := range list {
			for _, r := range list {
				do(api.Box{X0: x, Y0: y, X1: x, Y1: y}, [4]api.Pt{{X: x, Y: y}, {X: y, Y: x}, {X: -x, Y: r}, {X: r, Y: x}}, r)
				do(api.Box{X0: x, Y0: y, X1: y, Y1: x}, [4]api.Pt{{X: x, Y: y}, {X: x, Y: y}, {X: x, Y: y}, {X: x, Y: y}}, r)
				do(api.Box{X0: x, Y0: x, X1: y, Y1: y}, [4]api.Pt{{X: r, Y: x}, {X: y, Y: r}, {X: -y, Y: -r}, {X: y, Y: y}}, x)
				do(api.Box{X0: -1 << 63, Y0: -1 << 63, X1: 1<<63 - 1, Y1: 1<<63 - 1}, [4]api.Pt{{X: x, Y: x}, {X: y, Y: y}, {X: r, Y: r}, {X: y, Y: y}}, r)
			}
		}
	}
}

// Backward returns boxes whose ends are exchanged, none beyond Far.
func Backward() []api.Box {
	return []api.Box{
		{X0: 1}, {Y0: 1}, {X0: 1, Y0: 1}, {X0: 1, Y0: -1, X1: -1, Y1: 1}, {X0: -1, Y0: 1, X1: 1, Y1: -1}, {X0: 2, Y0: 2, X1: -2, Y1: -2}, {X0: 2, Y0: 1, X1: 1, Y1: 9}, {X0: 1, Y0: 9, X1: 2, Y1: 8}, {X0: 9, X1: 8, Y1: 1}, {X0: 9, Y1: 9},
		{X0: api.Far, Y0: api.Far, X1: -api.Far, Y1: -api.Far},
	}
}

// Scattered returns the points whose coordinates are 0, or at Far or just before it.
func Scattered() []api.Pt {
	var list []api.Pt
	for _, x := range []int64{-api.Far, 1 - api.Far, 0, api.Far} {
		for _, y := range []int64{-api.Far, 1 - api.Far, 0, api.Far} {
			list = append(list, api.Pt{X: x, Y: y})
		}
	}
	return list
}

// NoRadii returns radii of empty shapes; some have squares that are great, or that wrap round.
func NoRadii() []int64 {
	return []int64{0, -1, -2, -5, -api.Far, -Across, -1 << 31, -3037000500, -1 << 32, -1<<32 - 1, -1 << 62, -1<<63 + 1, -1 << 63}
}

// GreatRadii returns radii around those that reach just across all points, whose squares just fit, or don't, into 63 or 64 bits, or wrap round to 0 or beyond.
func GreatRadii() []int64 {
	return []int64{api.Far - 1, api.Far, api.Far + 1, 1 << 30, Across - 1, Across, Across + 1, 1<<31 - 1, 1 << 31, 1<<31 + 1, 3037000499, 3037000500, 1<<32 - 1, 1 << 32, 1<<32 + 1, 1 << 33, 6074001000, 1 << 48, 1 << 62, 1<<62 + 1, 1<<63 - 2, 1<<63 - 1}
}
