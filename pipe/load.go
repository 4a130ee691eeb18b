package pipe

import (
	"moonpool/api"
	"moonpool/path"
	"moonpool/whole"
)

// maxBit is the greatest force at the bit.
const maxBit = 1 << 40

// hold is what a string bears at a depth: its own bounds are those of the tension.
type hold struct {
	api.Range
	torque api.Range
}

// contact is how a part of a string rubs: the drag of a tension with a friction, rounded down and up, and the outer diameter there.
type contact struct {
	lower, upper func(tension, mu int64) int64
	out          int64
}

// mode is how a string moves: the sign of the force at the bit, and what a contact adds to what the string bears.
type mode struct {
	sign int64
	rub  func(h hold, c contact, mu api.Range) hold
}

// modeOf is the mode with the number n, if there is one.
func modeOf(n int) (mode, bool) {
	switch n {
	case api.ModeUp:
		return mode{1, rubUp}, true
	case api.ModeDown:
		return mode{-1, rubDown}, true
	case api.ModeSpin:
		return mode{-1, rubSpin}, true
	}
	return mode{}, false
}

func rubUp(h hold, c contact, mu api.Range) hold {
	h.Lo += c.lower(h.Lo, mu.Lo)
	h.Hi += c.upper(h.Hi, mu.Hi)
	return h
}

func rubDown(h hold, c contact, mu api.Range) hold {
	h.Lo -= c.upper(h.Lo, mu.Hi)
	h.Hi -= c.lower(h.Hi, mu.Lo)
	return h
}

func rubSpin(h hold, c contact, mu api.Range) hold {
	a, b := whole.Abs(h.Lo), whole.Abs(h.Hi)
	least := min(a, b)
	if h.Lo <= 0 && h.Hi >= 0 {
		least = 0
	}
	h.torque.Lo += whole.Floor(c.lower(least, mu.Lo)*c.out, 2)
	h.torque.Hi += whole.Ceil(c.upper(max(a, b), mu.Hi)*c.out, 2)
	return h
}

// bend is the contact in the bend between two legs.
func bend(v, w api.Vec, out int64) contact {
	const unit = 1000000000
	b := Bend(v, w)
	return contact{
		lower: func(tension, mu int64) int64 { return whole.PartFloor(whole.Abs(tension), mu*b.Lo, unit) },
		upper: func(tension, mu int64) int64 { return whole.PartCeil(whole.Abs(tension), mu*b.Hi, unit) },
		out:   out,
	}
}

// wall is the contact with the wall of a straight leg, for a wet weight and a length.
func wall(leg api.Vec, wet, long, out int64) contact {
	side, size := Side(leg), size(leg)
	lower, upper := whole.Floor(wet*long*side.Lo, size), whole.Ceil(wet*long*side.Hi, size)
	return contact{
		lower: func(_, mu int64) int64 { return whole.Floor(lower*mu, 1000) },
		upper: func(_, mu int64) int64 { return whole.Ceil(upper*mu, 1000) },
		out:   out,
	}
}

// size is the length of a leg of a valid path.
func size(leg api.Vec) int64 {
	n, _ := path.Root(leg.X*leg.X + leg.Y*leg.Y + leg.Z*leg.Z)
	return n
}

// CheckCase returns the first error of a case for a string.
func CheckCase(s api.String, c api.Case) api.Errno {
	if e := Check(s); e != api.OK {
		return e
	}
	if _, ok := modeOf(c.Mode); !ok {
		return api.ErrKind
	}
	if !whole.Within(c.Mud, 0, api.MaxWeight) || !whole.Within(c.Mu.Hi, 0, api.MaxMu) || !whole.Within(c.Mu.Lo, 0, c.Mu.Hi) || !whole.Within(c.Bit, 0, maxBit) {
		return api.ErrRange
	}
	for _, t := range s.Tubes {
		if Wet(t, c.Mud) <= 0 {
			return api.ErrState
		}
	}
	return api.OK
}

// load is what a piece bears below its weight, but above the bend under it, and at its top.
type load struct {
	piece         api.Piece
	before, after hold
}

// fits reports whether a tension can be counted.
func (h hold) fits() bool {
	return whole.Within(h.Lo, -api.MaxForce, api.MaxForce) && whole.Within(h.Hi, -api.MaxForce, api.MaxForce)
}

// loads are those of all pieces, or the error of Loads.
func loads(s api.String, p api.Path, c api.Case) ([]load, api.Errno) {
	if e := Fits(s, p); e != api.OK {
		return nil, e
	}
	if e := CheckCase(s, c); e != api.OK {
		return nil, e
	}
	m, _ := modeOf(c.Mode)
	h := hold{Range: api.Range{Lo: m.sign * c.Bit, Hi: m.sign * c.Bit}}
	var l []load
	for x := range pieces(s, p) {
		tube, leg := s.Tubes[x.Tube], p.Legs[x.Leg]
		if len(l) > 0 && l[len(l)-1].piece.Leg != x.Leg {
			h = m.rub(h, bend(leg, p.Legs[x.Leg+1], tube.Out), c.Mu)
		}
		bent := h
		wet, long := Wet(tube, c.Mud), x.To-x.From
		h.Lo += whole.Floor(wet*long*leg.Z, size(leg))
		h.Hi += whole.Ceil(wet*long*leg.Z, size(leg))
		weighed := h
		h = m.rub(h, wall(leg, wet, long, tube.Out), c.Mu)
		if !bent.fits() || !weighed.fits() || !h.fits() {
			return nil, api.ErrRange
		}
		l = append(l, load{x, bent, h})
	}
	return l, api.OK
}

// Loads returns what a string in a path bears after each piece.
func Loads(s api.String, p api.Path, c api.Case) ([]api.Hang, api.Errno) {
	l, e := loads(s, p, c)
	var hangs []api.Hang
	for _, x := range l {
		hangs = append(hangs, api.Hang{At: x.piece.From, Tension: x.after.Range, Torque: x.after.torque})
	}
	return hangs, e
}

// Strong reports whether a string bears all loads, and otherwise the first piece that does not.
func Strong(s api.String, p api.Path, c api.Case) (bool, int, api.Errno) {
	l, e := loads(s, p, c)
	if e != api.OK {
		return false, 0, e
	}
	for i, x := range l {
		if t := s.Tubes[x.piece.Tube]; x.after.Hi > t.Yield || x.after.torque.Hi > t.Twist {
			return false, i, api.OK
		}
	}
	return true, -1, api.OK
}

// critical is the force at which a tube in a leg buckles in a hole.
func critical(t api.Tube, leg api.Vec, mud, hole int64) int64 {
	press := whole.Floor(Wet(t, mud)*Side(leg).Lo, size(leg))
	return 1000 * whole.RootFloor(whole.Floor(8*t.Stiff*press, hole-t.Out))
}

// Buckles returns the pieces that can buckle in a hole.
func Buckles(s api.String, p api.Path, c api.Case, hole int64) ([]int, api.Errno) {
	l, e := loads(s, p, c)
	if e != api.OK {
		return nil, e
	}
	for _, t := range s.Tubes {
		if !whole.Within(hole, t.Out+1, 200) {
			return nil, api.ErrRange
		}
	}
	var numbers []int
	for i, x := range l {
		force := critical(s.Tubes[x.piece.Tube], p.Legs[x.piece.Leg], c.Mud, hole)
		if min(x.before.Lo, x.after.Lo) < -force {
			numbers = append(numbers, i)
		}
	}
	return numbers, api.OK
}
