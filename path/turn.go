package path

import (
	"moonpool/api"
	"moonpool/whole"
)

// turn is 1 less the cosine of the angle of two vectors of the given lengths, not in lowest terms.
func turn(v, w vec, sizeV, sizeW int64) api.Part {
	d := sizeV * sizeW
	return api.Part{N: d - v.dot(w), D: d}
}

// less reports whether a is less than b, exactly.
func less(a, b api.Part) bool {
	return whole.Product(a.N, b.D).Less(whole.Product(b.N, a.D))
}

// lowest is the part in lowest terms.
func lowest(x api.Part) api.Part {
	a, b := x.N, x.D
	for b != 0 {
		a, b = b, a%b
	}
	return api.Part{N: x.N / a, D: x.D / a}
}

// Turn returns the turn of two vectors, in lowest terms.
func Turn(v, w api.Vec) (api.Part, api.Errno) {
	a, okA := vec(v).size()
	b, okB := vec(w).size()
	if !okA || !okB || !whole.Within(a, 1, api.MaxLeg) || !whole.Within(b, 1, api.MaxLeg) {
		return api.Part{}, api.ErrForm
	}
	return lowest(turn(vec(v), vec(w), a, b)), api.OK
}

// Steepest returns the greatest turn of a joint of a path.
func Steepest(p api.Path) api.Part {
	if !valid(p) {
		return api.Part{}
	}
	most := api.Part{N: 0, D: 1}
	for i := 1; i < len(p.Legs); i++ {
		if x, _ := Turn(p.Legs[i-1], p.Legs[i]); less(most, x) {
			most = x
		}
	}
	return most
}
