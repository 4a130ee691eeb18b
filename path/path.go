// Package path is layer 1: it keeps the paths of wells, plans them to targets, and decides whether two of them can come together in spite of all errors of their surveys.
package path

import (
	"iter"

	"moonpool/api"
	"moonpool/whole"
)

// stop is a joint of a path, and its depth.
type stop struct {
	depth int64
	place vec
}

// stops hands out the joints of a valid path.
func stops(p api.Path) iter.Seq2[int, stop] {
	return func(yield func(int, stop) bool) {
		at := stop{0, vec(p.From)}
		for i, leg := range p.Legs {
			if !yield(i, at) {
				return
			}
			size, _ := vec(leg).size()
			at = stop{at.depth + size, at.place.plus(vec(leg))}
		}
		yield(len(p.Legs), at)
	}
}

// Root returns the whole root of n and true, if n has one and is at most 2^50.
func Root(n int64) (int64, bool) {
	if !whole.Within(n, 0, 1<<50) {
		return 0, false
	}
	r := whole.RootFloor(n)
	if r*r != n {
		return 0, false
	}
	return r, true
}

// Check returns the first error of a path.
func Check(p api.Path) api.Errno {
	if len(p.Legs) > api.MaxLegs {
		return api.ErrLong
	}
	at := vec(p.From)
	if !at.isPlace() {
		return api.ErrRange
	}
	for i, l := range p.Legs {
		leg := vec(l)
		if e := checkSize(leg, api.MinLeg, api.MaxLeg); e != api.OK {
			return e
		}
		if i > 0 && leg.dot(vec(p.Legs[i-1])) <= 0 {
			return api.ErrClash
		}
		at = at.plus(leg)
		if !at.isPlace() {
			return api.ErrRange
		}
	}
	return api.OK
}

// checkSize returns ErrForm for a vector without a whole length, ErrRange for a length that is not from lo to hi.
func checkSize(v vec, lo, hi int64) api.Errno {
	size, ok := v.size()
	if !ok {
		return api.ErrForm
	}
	if !whole.Within(size, lo, hi) {
		return api.ErrRange
	}
	return api.OK
}

func valid(p api.Path) bool {
	return Check(p) == api.OK
}

// hasJoint reports whether a valid path has the joint.
func hasJoint(p api.Path, joint int) bool {
	return 0 <= joint && joint <= len(p.Legs)
}

// hasLeg reports whether a valid path has the leg.
func hasLeg(p api.Path, leg int) bool {
	return 0 <= leg && leg < len(p.Legs)
}

// placeOf is the place of a joint that the valid path has.
func placeOf(p api.Path, n int) vec {
	at := vec(p.From)
	for _, leg := range p.Legs[:n] {
		at = at.plus(vec(leg))
	}
	return at
}

// Length returns the length of a path.
func Length(p api.Path) int64 {
	length := int64(0)
	if valid(p) {
		for _, s := range stops(p) {
			length = s.depth
		}
	}
	return length
}

// Joints returns the joints of a path.
func Joints(p api.Path) []api.Vec {
	if !valid(p) {
		return nil
	}
	var l []api.Vec
	for _, s := range stops(p) {
		l = append(l, api.Vec(s.place))
	}
	return l
}

// At returns the place at a depth of a path.
func At(p api.Path, d int64) (api.Vec, bool) {
	if !whole.Within(d, 0, Length(p)) || !valid(p) {
		return api.Vec{}, false
	}
	place := vec(p.From)
	for i, s := range stops(p) {
		if s.depth > d || !hasLeg(p, i) {
			break
		}
		leg := vec(p.Legs[i])
		size, _ := leg.size()
		place = s.place.plus(leg.part(d-s.depth, size))
	}
	return api.Vec(place), true
}

// Vert returns the line of the vertical depths of a path.
func Vert(p api.Path) api.Line {
	if !valid(p) {
		return api.Line{}
	}
	var l api.Line
	for _, s := range stops(p) {
		l.Knots = append(l.Knots, api.Knot{At: s.depth, V: s.place.Z})
	}
	return l
}
