package kill

import (
	"moonpool/api"
	"moonpool/whole"
)

// span is an enclosure that can be computed with: as if all terms of a sum were independent.
type span api.Range

func exact(n int64) span {
	return span{n, n}
}

func (a span) minus(b span) span {
	return span{a.Lo - b.Hi, a.Hi - b.Lo}
}

func (a span) times(n int64) span {
	return span{n * a.Lo, n * a.Hi}
}

// orNone has 0 for an end that is below 0.
func (a span) orNone() span {
	return span{max(0, a.Lo), max(0, a.Hi)}
}

// expanded is the volume of an amount of gas under a pressure.
func expanded(amount int64, press span) span {
	return span{whole.Floor(amount, max(1, press.Hi)), whole.Ceil(amount, max(1, press.Lo))}
}

// scene is what a moment is like: the gas, the pressure below it and at the choke, and the pressure at a place of the open hole.
type scene struct {
	gas, base, surface span
	press              func(place int64) span
}

// program is a kind of program: it says what a moment is like when so much was pumped, with a pressure at the bottom.
type program interface {
	scene(f fight, pumped, bottom int64) scene
}

// driller circulates the gas out with the mud, wait with kill mud; bull pushes it back.
type (
	driller struct{}
	wait    struct{}
	bull    struct{}
)

// programOf is the program of a kind, if there is one.
func programOf(kind int) (program, bool) {
	switch kind {
	case api.KillDriller:
		return driller{}, true
	case api.KillWait:
		return wait{}, true
	case api.KillBull:
		return bull{}, true
	}
	return nil, false
}

func (driller) scene(f fight, pumped, bottom int64) scene {
	return f.circulated(pumped, 0, bottom)
}

func (wait) scene(f fight, pumped, bottom int64) scene {
	return f.circulated(pumped, max(0, min(pumped, f.volume)-f.well.Pipe), bottom)
}

// circulated is the scene with mud below the gas, the lowest part of which is kill mud, and mud above it.
func (f fight) circulated(pumped, killed, bottom int64) scene {
	down := func(place int64) span {
		if place <= killed {
			return exact(bottom).minus(f.height(place).times(f.plan.Weight))
		}
		mud := f.height(place).minus(f.height(killed)).orNone()
		return exact(bottom).minus(f.height(killed).times(f.plan.Weight)).minus(mud.times(f.well.Weight))
	}
	base := down(pumped)
	gas := expanded(f.amount(), base)
	top := f.between(pumped+gas.Lo, pumped+gas.Hi)
	above := func(place int64) span {
		return base.minus(f.height(place).minus(top).orNone().times(f.well.Weight))
	}
	return scene{gas, base, above(f.volume), func(place int64) span {
		if place <= pumped {
			return down(place)
		}
		return above(place)
	}}
}

func (bull) scene(f fight, pumped, bottom int64) scene {
	gas := expanded(f.amount(), exact(bottom)).minus(exact(pumped)).orNone()
	border := max(0, f.volume-pumped)
	top := f.between(gas.Lo, gas.Hi)
	press := func(place int64) span {
		mud := f.height(min(place, border)).minus(top).orNone()
		killed := f.height(place).minus(f.height(border)).orNone()
		return exact(bottom).minus(mud.times(f.well.Weight)).minus(killed.times(f.plan.Weight))
	}
	return scene{gas, exact(bottom), press(f.volume), press}
}
