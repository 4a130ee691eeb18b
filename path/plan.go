package path

import (
	"slices"

	"moonpool/api"
	"moonpool/whole"
)

// CheckGoal returns the first error of a goal.
func CheckGoal(g api.Goal) api.Errno {
	if len(g.Dirs) < 2 {
		return api.ErrShort
	}
	if len(g.Dirs) > api.MaxDirs {
		return api.ErrFull
	}
	for i, d := range g.Dirs {
		if e := checkSize(vec(d), api.MinLeg, 4000); e != api.OK {
			return e
		}
		if slices.Contains(g.Dirs[:i], d) {
			return api.ErrExists
		}
	}
	t, lo, hi := g.Turn, g.Into.Lo, g.Into.Hi
	if !whole.Within(g.Mult, 1, api.MaxMult) || g.Legs < 1 || g.Legs > 3 ||
		!whole.Within(t.D, 1, 1000) || !whole.Within(t.N, 0, t.D) ||
		lo.X > hi.X || lo.Y > hi.Y || lo.Z > hi.Z {
		return api.ErrRange
	}
	return api.OK
}

// bends reports whether a leg in the direction w may follow a vector v.
func bends(v, w vec, most api.Part) bool {
	sizeV, _ := v.size()
	sizeW, _ := w.size()
	return v.dot(w) > 0 && !less(most, turn(v, w, sizeV, sizeW))
}

// Plan returns the best path from a place, after a first vector, to a goal.
func Plan(from api.Vec, first api.Vec, g api.Goal) (api.Path, api.Errno) {
	if e := CheckGoal(g); e != api.OK {
		return api.Path{}, e
	}
	if !vec(from).isPlace() {
		return api.Path{}, api.ErrRange
	}
	if checkSize(vec(first), 1, api.MaxLeg) != api.OK {
		return api.Path{}, api.ErrForm
	}
	legs := search(vec(from), vec(first), g)
	if legs == nil {
		return api.Path{}, api.ErrMissing
	}
	return api.Path{From: from, Legs: legs}, api.OK
}

// search returns the legs of the best path to a valid goal, none if there is none. It looks at lists of as many legs in lexicographic order, so the first of equal ones stays.
func search(from, first vec, g api.Goal) []api.Vec {
	var best, legs []api.Vec
	shortest := int64(1 << 62)
	var extend func(at, before vec, dir int, length int64)
	extend = func(at, before vec, dir int, length int64) {
		isBetter := length < shortest || length == shortest && len(legs) < len(best)
		if len(legs) > 0 && isBetter && at.within(vec(g.Into.Lo), vec(g.Into.Hi)) {
			best, shortest = slices.Clone(legs), length
		}
		if len(legs) == g.Legs || length >= shortest {
			return
		}
		for i, d := range g.Dirs {
			step := vec(d)
			if i == dir || !bends(before, step, g.Turn) {
				continue
			}
			size, _ := step.size()
			for m := int64(1); m <= g.Mult; m++ {
				end := at.plus(step.times(m))
				if !end.isPlace() { // and neither is any farther one
					break
				}
				legs = append(legs, api.Vec(step.times(m)))
				extend(end, step, i, length+m*size)
				legs = legs[:len(legs)-1]
			}
		}
	}
	extend(from, first, -1, 0)
	return best
}

// Sidetrack returns the path that leaves p at a joint for a goal.
func Sidetrack(p api.Path, joint int, g api.Goal) (api.Path, api.Errno) {
	if e := Check(p); e != api.OK {
		return api.Path{}, e
	}
	if joint < 1 || joint > len(p.Legs) {
		return api.Path{}, api.ErrMissing
	}
	side, e := Plan(api.Vec(placeOf(p, joint)), p.Legs[joint-1], g)
	if e != api.OK {
		return api.Path{}, e
	}
	if joint+len(side.Legs) > api.MaxLegs {
		return api.Path{}, api.ErrLong
	}
	return api.Path{From: p.From, Legs: slices.Concat(p.Legs[:joint], side.Legs)}, api.OK
}
