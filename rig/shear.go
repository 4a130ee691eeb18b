package rig

import (
	"moonpool/api"
	"moonpool/pipe"
	"moonpool/whole"
)

// checkShear returns the first error of the arguments of Shear.
func checkShear(x api.Ram, s api.String, hoist, places, ram int, closed api.Span) api.Errno {
	if e := pipe.Check(s); e != api.OK {
		return e
	}
	if !whole.Within(x.Faces, 0, api.MaxDepth) || !whole.Within(x.Step, 1, 4000) || !whole.Within(x.Near, 0, 100) {
		return api.ErrRange
	}
	if hoist == ram || !isSpan(hoist, hoist, api.MaxMachines) || !isSpan(ram, ram, api.MaxMachines) {
		return api.ErrOrder
	}
	if places < 2 || places > api.MaxPlaces || !isSpan(closed.Lo, closed.Hi, api.MaxPlaces) {
		return api.ErrRange
	}
	return api.OK
}

// Shear returns the bans that keep a ram from closing on a joint of the string.
func Shear(x api.Ram, s api.String, hoist, places, ram int, closed api.Span) ([]api.Ban, api.Errno) {
	if e := checkShear(x, s, hoist, places, ram, closed); e != api.OK {
		return nil, e
	}
	facesJoint := func(place int) bool {
		at := x.Faces - int64(place)*x.Step
		return pipe.Near(s, at-x.Near, at+x.Near)
	}
	var bans []api.Ban
	for from := 0; from < places; from++ {
		to := from
		for to < places && facesJoint(to) {
			to++
		}
		if to > from {
			bans = append(bans, ban(hoist, api.Span{Lo: from, Hi: to - 1}, ram, closed))
			from = to
		}
	}
	return bans, api.OK
}

// ban keeps a machine from places while another one is at others; the lesser number comes first.
func ban(a int, atA api.Span, b int, atB api.Span) api.Ban {
	if a > b {
		return ban(b, atB, a, atA)
	}
	return api.Ban{A: a, ALo: atA.Lo, AHi: atA.Hi, B: b, BLo: atB.Lo, BHi: atB.Hi}
}
