package path

import (
	"moonpool/api"
	"moonpool/whole"
)

// maxID is the greatest ID of a source.
const maxID = 99

// CheckSources returns the first error of a path and its sources.
func CheckSources(p api.Path, l []api.Source) api.Errno {
	if e := Check(p); e != api.OK {
		return e
	}
	if len(l) > api.MaxSource {
		return api.ErrFull
	}
	last := 0
	for _, s := range l {
		if s.ID <= last || s.ID > maxID {
			return api.ErrOrder
		}
		last = s.ID
	}
	for _, s := range l {
		if e := checkShifts(s, len(p.Legs)); e != api.OK {
			return e
		}
	}
	return api.OK
}

// checkShifts returns the first error of the vectors of a source, for so many legs.
func checkShifts(s api.Source, legs int) api.Errno {
	if len(s.Per) != legs {
		return api.ErrForm
	}
	for _, v := range s.Per {
		if !vec(v).near(api.MaxShift) {
			return api.ErrRange
		}
	}
	return api.OK
}

// shift is by how much a source displaces a joint that its path has.
func shift(s api.Source, joint int) vec {
	sum := vec{}
	for _, v := range s.Per[:joint] {
		sum = sum.plus(vec(v))
	}
	return sum
}

// Shifts returns by how much each source displaces a joint.
func Shifts(p api.Path, l []api.Source, joint int) []api.Vec {
	if CheckSources(p, l) != api.OK || !hasJoint(p, joint) {
		return nil
	}
	var shifts []api.Vec
	for _, s := range l {
		shifts = append(shifts, api.Vec(shift(s, joint)))
	}
	return shifts
}

// checkJoint returns the first error of a path, its sources, and the number of a joint.
func checkJoint(p api.Path, l []api.Source, joint int) api.Errno {
	if e := CheckSources(p, l); e != api.OK {
		return e
	}
	if !hasJoint(p, joint) {
		return api.ErrMissing
	}
	return api.OK
}

// Where returns the least box with all possible places of a joint.
func Where(p api.Path, l []api.Source, joint int) (api.Box, api.Errno) {
	if e := checkJoint(p, l, joint); e != api.OK {
		return api.Box{}, e
	}
	far := vec{}
	for _, s := range l {
		far = far.plus(shift(s, joint).abs())
	}
	at := placeOf(p, joint)
	return api.Box{Lo: api.Vec(at.minus(far)), Hi: api.Vec(at.plus(far))}, api.OK
}

// Actual returns 1,000 times the place of a joint for coefficients in thousandths.
func Actual(p api.Path, l []api.Source, c []int64, joint int) (api.Vec, api.Errno) {
	if e := checkJoint(p, l, joint); e != api.OK {
		return api.Vec{}, e
	}
	if len(c) < len(l) {
		return api.Vec{}, api.ErrShort
	}
	at := placeOf(p, joint).times(1000)
	for i, s := range l {
		if !whole.Within(c[i], -1000, 1000) {
			return api.Vec{}, api.ErrRange
		}
		at = at.plus(shift(s, joint).times(c[i]))
	}
	return api.Vec(at), api.OK
}
