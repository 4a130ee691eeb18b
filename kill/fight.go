package kill

import (
	"iter"

	"moonpool/api"
	"moonpool/earth"
	"moonpool/fluid"
)

// fight is a well, a program and a kick, all valid.
type fight struct {
	well    api.Well
	plan    api.Program
	kick    api.Bubble
	program program
	heights api.Line
	volume  int64
}

func newFight(w api.Well, p api.Program, k api.Bubble) fight {
	kind, _ := programOf(p.Kind)
	return fight{w, p, k, kind, fluid.Height(w.Hole), fluid.Volume(w.Hole)}
}

// amount is how much gas there is.
func (f fight) amount() int64 {
	return f.kick.Volume * f.kick.Pore
}

// height is the enclosure of the height at a place.
func (f fight) height(place int64) span {
	return span(earth.At(f.heights, min(place, f.volume)))
}

// between is from the least height at a place to the greatest one at another one.
func (f fight) between(low, high int64) span {
	return span{f.height(low).Lo, f.height(high).Hi}
}

// scene is what the step is like with an error of the choke.
func (f fight) scene(step, err int) scene {
	return f.program.scene(f, f.pumped(step), bottom(f.plan, f.kick, err))
}

// pumped is how much was pumped at the step.
func (f fight) pumped(step int) int64 {
	return int64(step) * f.well.Step
}

// moment is the moment of a step with an error of the choke.
func (f fight) moment(step, err int) api.Moment {
	s := f.scene(step, err)
	m := api.Moment{Pumped: f.pumped(step), Gas: api.Range(s.gas), Base: api.Range(s.base), Surface: api.Range(s.surface)}
	for _, p := range f.well.Points {
		m.Points = append(m.Points, api.Range(s.press(p.At)))
	}
	return m
}

// isDone reports whether a step is the last one: the gas may be at the choke, or is all pushed back.
func (f fight) isDone(step int) bool {
	gas := f.scene(step, -1).gas.Hi
	switch f.program.(type) {
	case bull:
		return gas == 0
	default:
		return f.pumped(step)+gas >= f.volume
	}
}

// steps hands out the steps up to the last one, or to MaxSteps if there is none.
func (f fight) steps() iter.Seq[int] {
	return func(yield func(int) bool) {
		for n := range api.MaxSteps + 1 {
			if !yield(n) || f.isDone(n) {
				return
			}
		}
	}
}

// last is the last step and true, or MaxSteps and false.
func (f fight) last() (int, bool) {
	last := 0
	for n := range f.steps() {
		last = n
	}
	return last, f.isDone(last)
}

// trouble is an outcome that is not Killed: Broken if it is sure, and at a point if that matters.
func trouble(why, point int, sure bool) (api.Outcome, bool) {
	o := api.Outcome{Is: api.Unsure, Why: why, Point: point}
	if sure {
		o.Is = api.Broken
	}
	return o, true
}

// leaves is why a moment leaves the window, if it may.
func (f fight) leaves(m api.Moment, err int) (api.Outcome, bool) {
	if bottom(f.plan, f.kick, err) < f.kick.Pore {
		return trouble(api.WhyPore, 0, true)
	}
	for i, p := range m.Points {
		if v := f.well.Points[i].V; p.Hi > v {
			return trouble(api.WhyFrac, i, p.Lo > v)
		}
	}
	if m.Surface.Lo < 0 {
		return trouble(api.WhyChoke, 0, m.Surface.Hi < 0)
	}
	if m.Surface.Hi > f.well.Limit {
		return trouble(api.WhyLimit, 0, m.Surface.Lo > f.well.Limit)
	}
	return api.Outcome{}, false
}

// dead is why kill mud alone may not hold the well, if it may not.
func (f fight) dead() (api.Outcome, bool) {
	full := f.height(f.volume)
	if f.plan.Weight*full.Lo < f.kick.Pore {
		return trouble(api.WhyDead, 0, true)
	}
	for i, p := range f.well.Points {
		press := full.minus(f.height(p.At)).times(f.plan.Weight)
		if press.Hi > p.V {
			return trouble(api.WhyDead, i, press.Lo > p.V)
		}
	}
	return api.Outcome{}, false
}

// outcome is what comes of the kick.
func (f fight) outcome() api.Outcome {
	for n := range f.steps() {
		for err := -1; err <= 1; err++ {
			if o, ok := f.leaves(f.moment(n, err), err); ok {
				o.Step, o.Err = n, err
				return o
			}
		}
	}
	last, ok := f.last()
	if !ok {
		return api.Outcome{Is: api.Unsure, Why: api.WhyLong, Step: last}
	}
	o, ok := f.dead()
	if !ok {
		o = api.Outcome{Is: api.Killed}
	}
	o.Step = last
	return o
}
