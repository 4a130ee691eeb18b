package pipe

import (
	"iter"
	"slices"

	"moonpool/api"
	"moonpool/path"
	"moonpool/whole"
)

// Fits returns the first error of a string in a path.
func Fits(s api.String, p api.Path) api.Errno {
	if e := Check(s); e != api.OK {
		return e
	}
	if e := path.Check(p); e != api.OK {
		return e
	}
	if length(s) > path.Length(p) {
		return api.ErrLong
	}
	return api.OK
}

// pieces hands out the pieces of a string that fits a path: it merges the ends of the tubes and the joints of the path, both from the bit upwards.
func pieces(s api.String, p api.Path) iter.Seq[api.Piece] {
	return func(yield func(api.Piece) bool) {
		legs := path.Vert(p).Knots
		low := length(s)
		leg := len(legs) - 1
		for legs[leg].At >= low {
			leg--
		}
		end := low
		for i, t := range s.Tubes {
			end -= t.Count * t.Len
			for low > end {
				high := max(end, legs[leg].At)
				if !yield(api.Piece{Tube: i, Leg: leg, From: high, To: low}) {
					return
				}
				low = high
				if low == legs[leg].At {
					leg--
				}
			}
		}
	}
}

// Pieces returns the pieces of a string in a path.
func Pieces(s api.String, p api.Path) []api.Piece {
	if Fits(s, p) != api.OK {
		return nil
	}
	var l []api.Piece
	for x := range pieces(s, p) {
		l = append(l, x)
	}
	return l
}

// Side returns the enclosure of how far a vector goes sideways.
func Side(v api.Vec) api.Range {
	const far = 1 << 24
	if !whole.Within(v.X, -far, far) || !whole.Within(v.Y, -far, far) || !whole.Within(v.Z, -far, far) {
		return api.Range{}
	}
	n := v.X*v.X + v.Y*v.Y
	return api.Range{Lo: whole.RootFloor(n), Hi: whole.RootCeil(n)}
}

// Bend returns the enclosure of 1,000,000 times the bend of two vectors.
func Bend(v, w api.Vec) api.Range {
	turn, e := path.Turn(v, w)
	if e != api.OK {
		return api.Range{}
	}
	const square = 2 * 1000000 * 1000000
	return api.Range{
		Lo: whole.RootFloor(whole.PartFloor(square, turn.N, turn.D)),
		Hi: whole.RootCeil(whole.PartCeil(square, turn.N, turn.D)),
	}
}

// CheckTable returns the first error of a table of life.
func CheckTable(l []api.Row) api.Errno {
	if len(l) == 0 {
		return api.ErrShort
	}
	if len(l) > api.MaxRows {
		return api.ErrFull
	}
	for i, r := range l {
		if !whole.Within(r.Turn.D, 1, 1000) || !whole.Within(r.Turn.N, 0, r.Turn.D) || !whole.Within(r.Turns, 1, api.MaxTurns) {
			return api.ErrRange
		}
		if i > 0 && (!exceeds(r.Turn, l[i-1].Turn) || r.Turns >= l[i-1].Turns) {
			return api.ErrOrder
		}
	}
	return api.OK
}

// exceeds reports whether a is greater than b; one of both is a Turn of a row.
func exceeds(a, b api.Part) bool {
	return a.N*b.D > b.N*a.D
}

// used is how much of the life n turns use at a bend of the given turn.
func used(l []api.Row, turn api.Part, n int64) int64 {
	allowed := int64(1)
	for _, r := range l {
		if !exceeds(turn, r.Turn) {
			allowed = r.Turns
			break
		}
	}
	return whole.Ceil(n*api.Life, allowed)
}

// Turn returns the string after n turns in a path, by a table of life.
func Turn(s api.String, p api.Path, l []api.Row, n int64) (api.String, api.Errno) {
	if e := Fits(s, p); e != api.OK {
		return api.String{}, e
	}
	if e := CheckTable(l); e != api.OK {
		return api.String{}, e
	}
	if !whole.Within(n, 0, 1<<20) {
		return api.String{}, api.ErrRange
	}
	worn := api.String{Tubes: slices.Clone(s.Tubes)}
	below := api.Piece{Leg: -1}
	for x := range pieces(s, p) {
		if below.Leg > x.Leg {
			turn, _ := path.Turn(p.Legs[x.Leg], p.Legs[below.Leg])
			worn.Tubes[below.Tube].Used += used(l, turn, n)
		}
		below = x
	}
	for _, t := range worn.Tubes {
		if t.Used > maxUsed {
			return api.String{}, api.ErrFull
		}
	}
	return worn, api.OK
}
