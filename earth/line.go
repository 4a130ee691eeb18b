package earth

import (
	"moonpool/api"
	"moonpool/whole"
)

// piece is the part of a line between two of its knots.
type piece struct {
	ends [2]api.Knot
}

// at is the enclosure of the value at x, which lies between the ends.
func (p piece) at(x int64) api.Range {
	a, b := p.ends[0], p.ends[1]
	grown, long := (b.V-a.V)*(x-a.At), b.At-a.At
	return api.Range{Lo: a.V + whole.Floor(grown, long), Hi: a.V + whole.Ceil(grown, long)}
}

// CheckLine returns the first error of a line whose knots may have an At up to at, and a V up to v.
func CheckLine(l api.Line, at, v int64) api.Errno {
	if !whole.Within(at, 0, 1<<40) || !whole.Within(v, 0, 1<<36) {
		return api.ErrRange
	}
	if len(l.Knots) == 0 {
		return api.ErrShort
	}
	if len(l.Knots) > api.MaxKnots {
		return api.ErrFull
	}
	for i, k := range l.Knots {
		if !whole.Within(k.At, 0, at) || !whole.Within(k.V, 0, v) {
			return api.ErrRange
		}
		if i > 0 && k.At <= l.Knots[i-1].At {
			return api.ErrOrder
		}
	}
	return api.OK
}

// right reports whether the line may be computed with.
func right(l api.Line) bool {
	return CheckLine(l, api.MaxDepth, api.MaxPress) == api.OK || CheckLine(l, 1<<40, 1<<20) == api.OK
}

// value is the enclosure of the value of a right line at x.
func value(l api.Line, x int64) api.Range {
	for i, k := range l.Knots {
		switch {
		case x > k.At:
		case x == k.At || i == 0:
			return api.Range{Lo: k.V, Hi: k.V}
		default:
			return piece{[2]api.Knot{l.Knots[i-1], k}}.at(x)
		}
	}
	last := l.Knots[len(l.Knots)-1].V
	return api.Range{Lo: last, Hi: last}
}

// At returns the enclosure of the value at x.
func At(l api.Line, x int64) api.Range {
	if !right(l) {
		return api.Range{}
	}
	return value(l, x)
}

// places are the ends of a part of a line, and the knots in it: where its least and greatest values are.
func places(l api.Line, from, to int64) []int64 {
	at := []int64{from, to}
	for _, k := range l.Knots {
		if whole.Within(k.At, from, to) {
			at = append(at, k.At)
		}
	}
	return at
}

// extreme is what pick makes of the values from from to to.
func extreme(l api.Line, from, to int64, pick func(a, b int64) int64) api.Range {
	if !right(l) || from > to {
		return api.Range{}
	}
	return fold(places(l, from, to), value(l, from), func(r api.Range, x int64) api.Range {
		v := value(l, x)
		return api.Range{Lo: pick(r.Lo, v.Lo), Hi: pick(r.Hi, v.Hi)}
	})
}

// fold joins all items to a result, one after the other.
func fold[T, R any](items []T, start R, join func(sofar R, item T) R) R {
	for _, item := range items {
		start = join(start, item)
	}
	return start
}

func lesser(a, b int64) int64 {
	return min(a, b)
}

func greater(a, b int64) int64 {
	return max(a, b)
}

// Least returns the enclosure of the least value from from to to.
func Least(l api.Line, from, to int64) api.Range {
	return extreme(l, from, to, lesser)
}

// Most returns the enclosure of the greatest value from from to to.
func Most(l api.Line, from, to int64) api.Range {
	return extreme(l, from, to, greater)
}

// covers reports whether a right line is at least another one from from to to, where one of both has a whole value at both ends. At a knot one of them has a whole value, too, so enclosures say exactly which is greater.
func covers(a, b api.Line, from, to int64) bool {
	for _, l := range []api.Line{a, b} {
		for _, x := range places(l, from, to) {
			if value(a, x).Lo < value(b, x).Hi {
				return false
			}
		}
	}
	return true
}

// Above reports whether a is at least b everywhere.
func Above(a, b api.Line) bool {
	return right(a) && right(b) && covers(a, b, 0, 1<<40)
}
