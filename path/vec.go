package path

import (
	"moonpool/api"
	"moonpool/whole"
)

// vec is api.Vec with the arithmetic of vectors.
type vec api.Vec

func (a vec) plus(b vec) vec {
	return vec{a.X + b.X, a.Y + b.Y, a.Z + b.Z}
}

func (a vec) minus(b vec) vec {
	return vec{a.X - b.X, a.Y - b.Y, a.Z - b.Z}
}

func (a vec) times(n int64) vec {
	return vec{n * a.X, n * a.Y, n * a.Z}
}

func (a vec) part(n, d int64) vec {
	return vec{whole.Floor(a.X*n, d), whole.Floor(a.Y*n, d), whole.Floor(a.Z*n, d)}
}

func (a vec) abs() vec {
	return vec{whole.Abs(a.X), whole.Abs(a.Y), whole.Abs(a.Z)}
}

func (a vec) dot(b vec) int64 {
	return a.X*b.X + a.Y*b.Y + a.Z*b.Z
}

func (a vec) cross(b vec) vec {
	return vec{a.Y*b.Z - a.Z*b.Y, a.Z*b.X - a.X*b.Z, a.X*b.Y - a.Y*b.X}
}

// sum is the sum of the components.
func (a vec) sum() int64 {
	return a.X + a.Y + a.Z
}

// within reports whether every component is from that of lo to that of hi.
func (a vec) within(lo, hi vec) bool {
	return whole.Within(a.X, lo.X, hi.X) && whole.Within(a.Y, lo.Y, hi.Y) && whole.Within(a.Z, lo.Z, hi.Z)
}

// near reports whether every component is from -n to n.
func (a vec) near(n int64) bool {
	return a.within(vec{-n, -n, -n}, vec{n, n, n})
}

// isPlace reports whether the vector is a valid place.
func (a vec) isPlace() bool {
	const far = api.MaxPlace
	return a.within(vec{-far, -far, 0}, vec{far, far, far})
}

// size is the whole length of the vector, if it has one.
func (a vec) size() (int64, bool) {
	if !a.near(1 << 24) {
		return 0, false
	}
	return Root(a.dot(a))
}
