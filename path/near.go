package path

import (
	"moonpool/api"
	"moonpool/whole"
)

// zonotope is all C + a1 g1 + a2 g2 + .. with each a from -1 to 1.
type zonotope struct {
	centre     vec
	generators []vec
}

// add adds a generator, if it is not 0.
func (z *zonotope) add(g vec) {
	if g != (vec{}) {
		z.generators = append(z.generators, g)
	}
}

// normals are vectors across all faces of the zonotope with any box added to it: each face of such a sum lies along two of its generators.
func (z zonotope) normals() []vec {
	along := append([]vec{{1, 0, 0}, {0, 1, 0}, {0, 0, 1}}, z.generators...)
	var l []vec
	for i, a := range along {
		for _, b := range along[:i] {
			if n := a.cross(b); n != (vec{}) {
				l = append(l, n)
			}
		}
	}
	return l
}

// clearance is the greatest whole r for which 0 is outside of the zonotope with the box of the radius times r added to it, but at least 0. 0 is outside exactly if it is so along one of the normals.
func (z zonotope) clearance(times int64) int64 {
	r := int64(0)
	for _, n := range z.normals() {
		free := whole.Abs(n.dot(z.centre))
		for _, g := range z.generators {
			free -= whole.Abs(n.dot(g))
		}
		if free > 0 {
			r = max(r, (free-1)/(times*n.abs().sum()))
		}
	}
	return r
}

// survey is a valid path with valid sources.
type survey struct {
	path    api.Path
	sources []api.Source
}

// surveys pairs the paths with their sources, and returns the first error of both.
func surveys(a api.Path, la []api.Source, b api.Path, lb []api.Source) (survey, survey, api.Errno) {
	e := CheckSources(a, la)
	if e == api.OK {
		e = CheckSources(b, lb)
	}
	return survey{a, la}, survey{b, lb}, e
}

// addCommon adds, for each ID, the vector of the sources of a less that of the sources of b.
func (z *zonotope) addCommon(a, b survey, of, other func(s api.Source) vec) {
	var sums [maxID + 1]vec
	for _, s := range a.sources {
		sums[s.ID] = of(s)
	}
	for _, s := range b.sources {
		sums[s.ID] = sums[s.ID].minus(other(s))
	}
	for _, g := range sums {
		z.add(g)
	}
}

// jointsClearance is up to which radius the joint i of a and the joint j of b cannot touch.
func jointsClearance(a survey, i int, b survey, j int) int64 {
	z := zonotope{centre: placeOf(a.path, i).minus(placeOf(b.path, j))}
	at := func(joint int) func(s api.Source) vec {
		return func(s api.Source) vec { return shift(s, joint) }
	}
	z.addCommon(a, b, at(i), at(j))
	return z.clearance(1)
}

// legsClearance is up to which radius the leg i of a and the leg j of b are separate. Lengths are doubled here.
func legsClearance(a survey, i int, b survey, j int) int64 {
	v, w := vec(a.path.Legs[i]), vec(b.path.Legs[j])
	middleA := placeOf(a.path, i).times(2).plus(v)
	middleB := placeOf(b.path, j).times(2).plus(w)
	z := zonotope{centre: middleA.minus(middleB)}
	z.add(v)
	z.add(w)
	at := func(leg int) func(s api.Source) vec {
		return func(s api.Source) vec { return shift(s, leg).plus(shift(s, leg+1)) }
	}
	z.addCommon(a, b, at(i), at(j))
	for _, s := range a.sources {
		z.add(vec(s.Per[i]))
	}
	for _, s := range b.sources {
		z.add(vec(s.Per[j]))
	}
	return z.clearance(2)
}

func isRadius(r int64) bool {
	return whole.Within(r, 1, api.MaxRadius)
}

// Touches reports whether two joints can touch within r.
func Touches(a api.Path, la []api.Source, i int, b api.Path, lb []api.Source, j int, r int64) bool {
	x, y, e := surveys(a, la, b, lb)
	if e != api.OK || !hasJoint(a, i) || !hasJoint(b, j) || !isRadius(r) {
		return false
	}
	return jointsClearance(x, i, y, j) < r
}

// Separate reports whether two legs are separate within r.
func Separate(a api.Path, la []api.Source, i int, b api.Path, lb []api.Source, j int, r int64) bool {
	x, y, e := surveys(a, la, b, lb)
	if e != api.OK || !hasLeg(a, i) || !hasLeg(b, j) || !isRadius(r) {
		return false
	}
	return legsClearance(x, i, y, j) >= r
}

// least is the least clearance of any of n parts of a and any of m parts of b, but at most MaxRadius.
func least(a survey, n int, b survey, m int, clearance func(a survey, i int, b survey, j int) int64) int64 {
	r := int64(api.MaxRadius)
	for i := range n {
		for j := range m {
			r = min(r, clearance(a, i, b, j))
		}
	}
	return r
}

// gap is up to which radius all legs are separate.
func gap(a, b survey) int64 {
	return least(a, len(a.path.Legs), b, len(b.path.Legs), legsClearance)
}

// Known returns what is known of the distance of two paths.
func Known(a api.Path, la []api.Source, b api.Path, lb []api.Source, r int64) (int, api.Errno) {
	x, y, e := surveys(a, la, b, lb)
	if e != api.OK {
		return 0, e
	}
	if !isRadius(r) {
		return 0, api.ErrRange
	}
	if least(x, len(a.Legs)+1, y, len(b.Legs)+1, jointsClearance) < r {
		return api.Touch, api.OK
	}
	if gap(x, y) >= r {
		return api.Clear, api.OK
	}
	return api.Open, api.OK
}

// Gap returns the greatest radius for which all legs are separate, 0 if there is none.
func Gap(a api.Path, la []api.Source, b api.Path, lb []api.Source) (int64, api.Errno) {
	x, y, e := surveys(a, la, b, lb)
	if e != api.OK {
		return 0, e
	}
	return gap(x, y), api.OK
}
