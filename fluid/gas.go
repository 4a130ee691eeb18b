package fluid

import (
	"moonpool/api"
	"moonpool/whole"
)

func validGas(g api.Gas) bool {
	return whole.Within(g.K, 0, api.MaxK) && whole.Within(g.Power, 0, api.MaxPower)
}

// Free returns the amount of a gas that is free at the pressure p.
func Free(g api.Gas, p int64) int64 {
	if !validGas(g) || !whole.Within(p, 1, api.MaxPress) {
		return 0
	}
	return max(0, g.K-g.Power*(p>>20))
}

// Space returns the enclosure of the volume that the free gas takes up.
func Space(g api.Gas, p int64) api.Range {
	if !whole.Within(p, 1, api.MaxPress) {
		return api.Range{}
	}
	free := Free(g, p)
	return api.Range{Lo: whole.Floor(free, p), Hi: whole.Ceil(free, p)}
}

// Bubble returns the least pressure at which nothing of a gas is free.
func Bubble(g api.Gas) (int64, bool) {
	if !validGas(g) {
		return 0, false
	}
	return first(1, api.MaxPress, func(p int64) bool { return Free(g, p) == 0 })
}
