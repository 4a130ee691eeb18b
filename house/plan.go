// Package house is layer 10: it accepts plans of wells, or shows where they fail: pressures in the window for all earths, casings that bear, barriers that were tested, kicks that are noticed and killed. And it finds the last chance of a simulated blow-out.
package house

import (
	"cmp"
	"iter"
	"slices"

	"moonpool/api"
	"moonpool/casing"
	"moonpool/earth"
	"moonpool/fluid"
	"moonpool/kick"
	"moonpool/kill"
	"moonpool/whole"
)

// validWeights reports whether the numbers of which the static pressure is made are in their ranges.
func validWeights(x api.Phase) bool {
	return whole.Within(x.To, 1, api.MaxDepth) && whole.Within(x.Sea, 0, x.To) && whole.Within(x.Light, 0, api.MaxWeight) &&
		whole.Within(x.Weight, 0, api.MaxWeight) && whole.Within(x.Top, 0, api.MaxPress)
}

// static is the static pressure at a depth.
func static(x api.Phase, z int64) int64 {
	return x.Top + x.Light*min(z, x.Sea) + x.Weight*max(0, z-x.Sea)
}

// Static returns the static pressure at a depth.
func Static(x api.Phase, z int64) int64 {
	if !validWeights(x) || !whole.Within(z, 0, x.To) {
		return 0
	}
	return static(x, z)
}

// annulus is the annulus of a phase, down to its depth.
func annulus(x api.Phase) api.Seg {
	return api.Seg{Long: x.Long, Rise: x.To, Area: x.Area, Gap: x.Gap}
}

// lossAt is the loss at a depth under a gradient.
func lossAt(x api.Phase, gradient, z int64) int64 {
	return gradient * whole.Ceil(z*x.Long, x.To)
}

// Loss returns the loss at a depth, if the mud flows.
func Loss(x api.Phase, z int64) (int64, bool) {
	if x.To < 1 || !whole.Within(z, 0, x.To) {
		return 0, false
	}
	gradient, ok := fluid.Gradient(annulus(x), x.Mud, x.Flow)
	if !ok {
		return 0, false
	}
	return lossAt(x, gradient, z), true
}

// merge lists what iterators yield, ascending, and each value once.
func merge[T cmp.Ordered](all ...iter.Seq[T]) []T {
	var l []T
	for _, values := range all {
		for v := range values {
			l = append(l, v)
		}
	}
	slices.Sort(l)
	return slices.Compact(l)
}

// multiples hands out the multiples of a number from from to to.
func multiples(of, from, to int64) iter.Seq[int64] {
	return func(yield func(int64) bool) {
		for z := whole.Ceil(from, of) * of; z <= to; z += of {
			if !yield(z) {
				return
			}
		}
	}
}

// part hands out those of some depths that are from from to to.
func part(depths []int64, from, to int64) iter.Seq[int64] {
	return func(yield func(int64) bool) {
		for _, z := range depths {
			if whole.Within(z, from, to) && !yield(z) {
				return
			}
		}
	}
}

// stations are those of a phase, whose depths and earth are valid.
func stations(p api.Plan, x api.Phase) []int64 {
	return merge(slices.Values([]int64{x.Shoe, x.To}), multiples(p.Grid, x.Shoe, x.To), part(earth.Depths(p.Earth), x.Shoe, x.To))
}

// checkNumbers returns ErrRange because of a number of a phase.
func checkNumbers(x api.Phase, bottom int64) api.Errno {
	if !whole.Within(x.Tick, 0, api.MaxTick) || !whole.Within(x.Age, 0, api.MaxTick) || x.Shoe < 0 || x.Shoe >= x.To || x.To > bottom ||
		!validWeights(x) || !whole.Within(x.Flow, 0, api.MaxFlow) || !whole.Within(x.Mud.Yield, 0, api.MaxYield) ||
		!whole.Within(x.Mud.Visc, 1, api.MaxVisc) || !whole.Within(x.Notice, 0, api.MaxTick) {
		return api.ErrRange
	}
	return api.OK
}

// checkJob returns the first error of the casing above a phase.
func checkJob(x api.Phase) api.Errno {
	if len(x.Job.Ends) == 0 {
		return api.OK
	}
	if e := casing.Check(x.Job); e != api.OK {
		return e
	}
	if x.Job.Ends[len(x.Job.Ends)-1] != x.Shoe {
		return api.ErrForm
	}
	return api.OK
}

// checkPhase returns the first error of a phase.
func checkPhase(p api.Plan, phase int) api.Errno {
	x := p.Phases[phase]
	if e := checkNumbers(x, p.Earth.Bottom); e != api.OK {
		return e
	}
	if e := fluid.CheckHole(api.Hole{Segs: []api.Seg{annulus(x)}}); e != api.OK {
		return e
	}
	if phase > 0 {
		if before := p.Phases[phase-1]; x.Tick < before.Tick || x.Shoe < before.Shoe || x.To <= before.To {
			return api.ErrOrder
		}
	}
	if e := checkJob(x); e != api.OK {
		return e
	}
	if len(x.Stack) > api.MaxTests || len(x.Cased) > api.MaxTests {
		return api.ErrFull
	}
	if e := kick.CheckSensors(x.Sensors); e != api.OK {
		return e
	}
	if e := kick.CheckKicks(x.Kicks); e != api.OK {
		return e
	}
	if _, _, e := kill.Verify(x.Well, x.Program, x.Volumes, x.Pores); e != api.OK {
		return e
	}
	if len(stations(p, x)) > api.MaxStations {
		return api.ErrLong
	}
	return api.OK
}

// Check returns the first error of a plan.
func Check(p api.Plan) api.Errno {
	if e := earth.Check(p.Earth); e != api.OK {
		return e
	}
	if !whole.Within(p.Grid, 10, api.MaxDepth) {
		return api.ErrRange
	}
	if len(p.Phases) == 0 {
		return api.ErrShort
	}
	if len(p.Phases) > api.MaxPhases {
		return api.ErrFull
	}
	for i := range p.Phases {
		if e := checkPhase(p, i); e != api.OK {
			return e
		}
	}
	return api.OK
}

// hasPhase reports whether a plan is valid, and has the phase.
func hasPhase(p api.Plan, phase int) bool {
	return 0 <= phase && phase < len(p.Phases) && Check(p) == api.OK
}

// Stations returns the stations of a phase.
func Stations(p api.Plan, phase int) []int64 {
	if !hasPhase(p, phase) {
		return nil
	}
	return stations(p, p.Phases[phase])
}

// Weights returns the weights of a phase that keep all its stations in the window.
func Weights(p api.Plan, phase int) api.Range {
	if !hasPhase(p, phase) {
		return api.Range{}
	}
	x := p.Phases[phase]
	x.Weight = 0
	r := api.Range{Lo: 0, Hi: api.MaxWeight}
	for _, z := range stations(p, x) {
		w, light := earth.Window(p.Earth, z), static(x, z)
		below := z - x.Sea
		if below <= 0 {
			if !whole.Within(light, w.Lo, w.Hi) {
				r.Hi = -1
			}
			continue
		}
		r.Lo = max(r.Lo, whole.Ceil(w.Lo-light, below))
		r.Hi = min(r.Hi, whole.Floor(w.Hi-light, below))
	}
	if r.Lo > r.Hi {
		return api.Range{Lo: 1, Hi: 0}
	}
	return r
}

// numbers are all plain numbers of a phase and its well.
func numbers(x api.Phase) [17]int64 {
	return [17]int64{x.Tick, x.Age, x.Shoe, x.To, x.Sea, x.Light, x.Weight, x.Top, x.Long, x.Area, x.Gap, x.Flow, x.Notice, x.Well.Weight, x.Well.Limit, x.Well.Pipe, x.Well.Step}
}

// samePhase reports whether two phases are equal in everything.
func samePhase(a, b api.Phase) bool {
	return numbers(a) == numbers(b) && a.Mud == b.Mud && a.Kicks == b.Kicks && a.Program == b.Program && casing.Same(a.Job, b.Job) &&
		slices.Equal(a.Stack, b.Stack) && slices.Equal(a.Cased, b.Cased) && slices.Equal(a.Sensors, b.Sensors) &&
		slices.Equal(a.Well.Hole.Segs, b.Well.Hole.Segs) && slices.Equal(a.Well.Points, b.Well.Points) &&
		slices.Equal(a.Volumes, b.Volumes) && slices.Equal(a.Pores, b.Pores)
}

// Same reports whether two plans are equal in everything.
func Same(a, b api.Plan) bool {
	return a.Grid == b.Grid && earth.Same(a.Earth, b.Earth) && slices.EqualFunc(a.Phases, b.Phases, samePhase)
}

// copyPhase is an equal phase that shares no memory with x.
func copyPhase(x api.Phase) api.Phase {
	x.Job = casing.Copy(x.Job)
	x.Stack, x.Cased, x.Sensors = slices.Clone(x.Stack), slices.Clone(x.Cased), slices.Clone(x.Sensors)
	x.Well.Hole.Segs, x.Well.Points = slices.Clone(x.Well.Hole.Segs), slices.Clone(x.Well.Points)
	x.Volumes, x.Pores = slices.Clone(x.Volumes), slices.Clone(x.Pores)
	return x
}

// Copy returns an equal plan that shares no memory with p.
func Copy(p api.Plan) api.Plan {
	p.Earth, p.Phases = earth.Copy(p.Earth), slices.Clone(p.Phases)
	for i, x := range p.Phases {
		p.Phases[i] = copyPhase(x)
	}
	return p
}
