package house

import (
	"moonpool/api"
	"moonpool/casing"
	"moonpool/earth"
	"moonpool/fluid"
	"moonpool/kick"
	"moonpool/kill"
	"moonpool/whole"
)

// review is a phase of a valid plan that is judged. Its methods return whether the phase fails, and where.
type review struct {
	earth    api.Earth
	phase    api.Phase
	stations []int64
}

// reason is why a phase may not be accepted, and the method that finds out.
type reason struct {
	why   int
	fails func(r review) (int64, bool)
}

// reasons are all of them, in order.
func reasons() []reason {
	return []reason{
		{api.PlanStatic, review.static},
		{api.PlanFlow, review.flow},
		{api.PlanCasing, review.casing},
		{api.PlanStack, review.stack},
		{api.PlanCased, review.cased},
		{api.PlanLate, review.late},
		{api.PlanCover, review.cover},
		{api.PlanKill, review.kill},
	}
}

func (r review) static() (int64, bool) {
	for _, z := range r.stations {
		if w := earth.Window(r.earth, z); !whole.Within(static(r.phase, z), w.Lo, w.Hi) {
			return z, true
		}
	}
	return 0, false
}

func (r review) flow() (int64, bool) {
	x := r.phase
	gradient, ok := fluid.Gradient(annulus(x), x.Mud, x.Flow)
	if !ok {
		return 0, true
	}
	for _, z := range r.stations {
		if static(x, z)+lossAt(x, gradient, z) > earth.Window(r.earth, z).Hi {
			return z, true
		}
	}
	return 0, false
}

func (r review) casing() (int64, bool) {
	if len(r.phase.Job.Ends) == 0 {
		return 0, false
	}
	_, ok := casing.Choose(r.phase.Job)
	return 0, !ok
}

// proves reports whether tests prove what the choke may have to hold.
func (r review) proves(l []api.Test) bool {
	return casing.Proven(l, r.phase.Well.Limit, r.phase.Tick, r.phase.Age)
}

func (r review) stack() (int64, bool) {
	return 0, !r.proves(r.phase.Stack)
}

func (r review) cased() (int64, bool) {
	return 0, !r.proves(r.phase.Cased)
}

func (r review) late() (int64, bool) {
	x := r.phase
	ticks, e := kick.Latest(x.Sensors, x.Kicks)
	if e != api.OK {
		return -1, true
	}
	if ticks > x.Notice {
		return ticks, true
	}
	gain := kick.Gain(api.Kick{Rate: x.Kicks.Rate.Hi, Grow: x.Kicks.Grow.Hi}, ticks)
	return gain, gain > x.Volumes[len(x.Volumes)-1]
}

func (r review) cover() (int64, bool) {
	x := r.phase
	heights := fluid.Height(x.Well.Hole)
	if heights.Knots[len(heights.Knots)-1].V != x.To {
		return -1, true
	}
	if x.Pores[len(x.Pores)-1] < earth.Pore(r.earth, x.To).Hi {
		return -2, true
	}
	for i, p := range x.Well.Points {
		height := earth.At(heights, p.At)
		deep, shallow := earth.Frac(r.earth, x.To-height.Lo), earth.Frac(r.earth, x.To-height.Hi)
		if p.V > min(deep.Lo, shallow.Lo) {
			return int64(i), true
		}
	}
	return 0, false
}

func (r review) kill() (int64, bool) {
	x := r.phase
	k, o, _ := kill.Verify(x.Well, x.Program, x.Volumes, x.Pores)
	return k.Volume, o.Is != api.Killed
}

// judge is the verdict on a phase of a valid plan.
func judge(p api.Plan, phase int) api.Verdict {
	x := p.Phases[phase]
	r := review{p.Earth, x, stations(p, x)}
	for _, reason := range reasons() {
		if at, fails := reason.fails(r); fails {
			return api.Verdict{Phase: phase, Why: reason.why, At: at}
		}
	}
	return api.Verdict{OK: true, Phase: phase}
}

// Judge returns the verdict on a phase.
func Judge(p api.Plan, phase int) api.Verdict {
	if !hasPhase(p, phase) {
		return api.Verdict{}
	}
	return judge(p, phase)
}

// Accept returns the verdict on a plan.
func Accept(p api.Plan) (api.Verdict, api.Errno) {
	if e := Check(p); e != api.OK {
		return api.Verdict{}, e
	}
	for i := range p.Phases {
		v := judge(p, i)
		if v == (api.Verdict{OK: true, Phase: i}) {
			continue
		}
		return v, api.OK
	}
	return api.Verdict{OK: true}, api.OK
}
