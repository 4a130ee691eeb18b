// Package fluid is layer 3: it computes with fluids in an annulus: columns of them and their pressures, flow and its losses, gas that expands, dissolves and comes out, and cuttings that are carried.
package fluid

import (
	"iter"

	"moonpool/api"
	"moonpool/whole"
)

// part is a segment of a hole, with the places at its ends.
type part struct {
	seg       api.Seg
	low, high int64
}

// parts hands out the segments of a valid hole, from the bottom up.
func parts(h api.Hole) iter.Seq2[int, part] {
	return func(yield func(int, part) bool) {
		low := int64(0)
		for i, s := range h.Segs {
			high := low + s.Long*s.Area
			if !yield(i, part{s, low, high}) {
				return
			}
			low = high
		}
	}
}

// CheckHole returns the first error of a hole.
func CheckHole(h api.Hole) api.Errno {
	if len(h.Segs) == 0 {
		return api.ErrShort
	}
	if len(h.Segs) > api.MaxSegs {
		return api.ErrFull
	}
	long := int64(0)
	for _, s := range h.Segs {
		if s.Long < 1 || !whole.Within(s.Rise, 0, s.Long) || !whole.Within(s.Area, 1, api.MaxArea) || !whole.Within(s.Gap, 1, api.MaxGap) {
			return api.ErrRange
		}
		long = whole.Sum(long, s.Long)
	}
	if long > api.MaxDepth {
		return api.ErrLong
	}
	return api.OK
}

func validHole(h api.Hole) bool {
	return CheckHole(h) == api.OK
}

// validSegment reports whether the segment is one of a valid hole.
func validSegment(s api.Seg) bool {
	return validHole(api.Hole{Segs: []api.Seg{s}})
}

// Volume returns the volume of a hole.
func Volume(h api.Hole) int64 {
	volume := int64(0)
	if validHole(h) {
		for _, p := range parts(h) {
			volume = p.high
		}
	}
	return volume
}

// Height returns the height line of a hole.
func Height(h api.Hole) api.Line {
	if !validHole(h) {
		return api.Line{}
	}
	knot := api.Knot{}
	l := api.Line{Knots: []api.Knot{knot}}
	for _, p := range parts(h) {
		knot = api.Knot{At: p.high, V: knot.V + p.seg.Rise}
		l.Knots = append(l.Knots, knot)
	}
	return l
}

// isPlace reports whether u is a place of a valid hole.
func isPlace(h api.Hole, u int64) bool {
	return whole.Within(u, 0, Volume(h))
}

// Where returns the number of the segment in which the place u lies.
func Where(h api.Hole, u int64) int {
	if !validHole(h) || !isPlace(h, u) {
		return -1
	}
	at := 0
	for i, p := range parts(h) {
		if u < p.high {
			return i
		}
		at = i
	}
	return at
}
