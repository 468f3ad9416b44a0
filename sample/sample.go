// Package sample makes the numbers, points, boxes and radii that the tests of several packages try.
package sample

import (
	"heliograph/api"
)

// Across is the least radius that reaches from (-Far, -Far) to (Far, Far), whose distance is the root of 2^61.
const Across = 1518500250

// Boxes returns all boxes, also of one line or one point, whose coordinates are from low to high.
func Boxes(low, high int64) []api.Box {
	var list []api.Box
	for x0 := low; x0 <= high; x0++ {
		for x1 := x0; x1 <= high; x1++ {
			for y0 := low; y0 <= high; y0++ {
				for y1 := y0; y1 <= high; y1++ {
					list = append(list, api.Box{X0: x0, Y0: y0, X1: x1, Y1: y1})
				}
			}
		}
	}
	return list
}

// Points returns all points of b whose coordinates are whole.
func Points(b api.Box) []api.Pt {
	var list []api.Pt
	for x := b.X0; x <= b.X1; x++ {
		for y := b.Y0; y <= b.Y1; y++ {
			list = append(list, api.Pt{X: x, Y: y})
		}
	}
	return list
}

// Number returns a coordinate of any size up to Far, often one at or beside Far or 0. What it returns hangs on below, which returns numbers from 0 to n - 1.
func Number(below func(n int64) int64) int64 {
	switch below(6) {
	case 0:
		return api.Far - below(3)
	case 1:
		return below(3) - api.Far
	case 2:
		return below(7) - 3
	}
	return (below(2*api.Far+1) - api.Far) >> below(30)
}

// Point returns a point of two Numbers.
func Point(below func(n int64) int64) api.Pt {
	return api.Pt{X: Number(below), Y: Number(below)}
}

// Box returns the box between two Points, often one of one line or one point.
func Box(below func(n int64) int64) api.Box {
	p, q := Point(below), Point(below)
	if below(3) == 0 {
		q.X = p.X
	}
	if below(3) == 0 {
		q.Y = p.Y
	}
	return api.Box{X0: min(p.X, q.X), Y0: min(p.Y, q.Y), X1: max(p.X, q.X), Y1: max(p.Y, q.Y)}
}

// Extremes returns 0, and numbers beside it, at Far, just beyond it, and at the ends of 64 bits.
func Extremes() []int64 {
	return []int64{0, 1, -1, api.Far, api.Far + 1, -api.Far, -api.Far - 1, 1 << 31, -1 << 31, 1 << 62, -1 << 62, 1<<63 - 1, 1<<63 - 2, -1 << 63, -1<<63 + 1}
}

// Any returns a number of any size, often one of the Extremes. What it returns hangs on below, as that of Number.
func Any(below func(n int64) int64) int64 {
	if below(3) == 0 {
		return below(1<<32)<<32 | below(1<<32)
	}
	list := Extremes()
	return list[below(int64(len(list)))]
}

// NoRadii returns radii of empty shapes; some have squares that are great, or that wrap round.
func NoRadii() []int64 {
	return []int64{0, -1, -2, -5, -api.Far, -Across, -1 << 31, -3037000500, -1 << 32, -1<<32 - 1, -1 << 62, -1<<63 + 1, -1 << 63}
}

// GreatRadii returns radii around those that reach just across all points, whose squares just fit, or don't, into 63 or 64 bits, or wrap round to 0 or beyond.
func GreatRadii() []int64 {
	return []int64{api.Far - 1, api.Far, api.Far + 1, 1 << 30, Across - 1, Across, Across + 1, 1<<31 - 1, 1 << 31, 1<<31 + 1, 3037000499, 3037000500, 1<<32 - 1, 1 << 32, 1<<32 + 1, 1 << 33, 6074001000, 1 << 48, 1 << 62, 1<<62 + 1, 1<<63 - 2, 1<<63 - 1}
}
