package fluid

import (
	"moonpool/api"
	"moonpool/whole"
)

// validFlow reports whether mud may be asked to flow so much in a segment.
func validFlow(s api.Seg, m api.Mud, flow int64) bool {
	return validSegment(s) && whole.Within(m.Yield, 0, api.MaxYield) && whole.Within(m.Visc, 1, api.MaxVisc) && whole.Within(flow, 0, api.MaxFlow)
}

// flows compares 2 t^3 - 3 y t^2 + y^3, which is (t - y)^2 (2 t + y), times g A, with the flow times m t^2.
func flows(s api.Seg, m api.Mud, gradient, flow int64) bool {
	t, y := gradient*s.Gap, m.Yield
	if t <= y {
		return flow == 0
	}
	driven := whole.Product((t-y)*(t-y), (2*t+y)*s.Gap*s.Area)
	wanted := whole.Product(flow*m.Visc, t*t)
	return driven == wanted || wanted.Less(driven)
}

// Flows reports whether the flow under the gradient g is at least flow.
func Flows(s api.Seg, m api.Mud, g, flow int64) bool {
	return validFlow(s, m, flow) && whole.Within(g, 0, api.MaxGradient) && flows(s, m, g, flow)
}

// first finds the least number from lo to hi for which a predicate holds that holds for all greater ones, too.
func first[N int | int64](lo, hi N, holds func(n N) bool) (N, bool) {
	if !holds(hi) {
		return 0, false
	}
	for lo < hi {
		middle := lo + (hi-lo)/2
		if holds(middle) {
			hi = middle
		} else {
			lo = middle + 1
		}
	}
	return lo, true
}

// Gradient returns the least gradient for which the mud flows at least so much.
func Gradient(s api.Seg, m api.Mud, flow int64) (int64, bool) {
	if !validFlow(s, m, flow) {
		return 0, false
	}
	return first(0, api.MaxGradient, func(g int64) bool { return flows(s, m, g, flow) })
}

// Loss returns the enclosure of the pressure that is lost by flow from the place u to the top.
func Loss(h api.Hole, m api.Mud, flow, u int64) (api.Range, bool) {
	if !validHole(h) || !isPlace(h, u) {
		return api.Range{}, false
	}
	sum := api.Range{}
	for _, p := range parts(h) {
		g, ok := Gradient(p.seg, m, flow)
		if !ok {
			return api.Range{}, false
		}
		above := max(0, p.high-max(u, p.low))
		sum.Lo += g * whole.Floor(p.seg.Long*above, p.high-p.low)
		sum.Hi += g * whole.Ceil(p.seg.Long*above, p.high-p.low)
	}
	return sum, true
}

// Load returns how many thousandths of what flows are cuttings, if they are carried.
func Load(s api.Seg, feed, flow, slip int64) (int64, bool) {
	if !validSegment(s) || !whole.Within(feed, 0, api.MaxFlow) || !whole.Within(flow, 0, api.MaxFlow) || !whole.Within(slip, 0, 1000) {
		return 0, false
	}
	rest := flow - slip*s.Area
	if rest <= 0 {
		return 0, false
	}
	return min(1000, whole.Ceil(1000*feed, rest)), true
}

// Mixed returns the weight of a mud with a load of rock.
func Mixed(weight, rock, load int64) int64 {
	if !whole.Within(weight, 0, api.MaxWeight) || !whole.Within(rock, 0, api.MaxWeight) || !whole.Within(load, 0, 1000) {
		return 0
	}
	return weight + whole.Ceil((rock-weight)*load, 1000)
}
