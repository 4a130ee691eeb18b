package rig

import (
	"slices"

	"moonpool/api"
)

// CheckGoal returns the first error of a rig and a goal.
func CheckGoal(r api.Rig, goal []api.Span) api.Errno {
	if e := Check(r); e != api.OK {
		return e
	}
	return checkSpans(r, goal)
}

// checkSpans returns the first error of a goal of a valid rig.
func checkSpans(r api.Rig, goal []api.Span) api.Errno {
	if len(goal) != len(r.Places) {
		return api.ErrForm
	}
	for i, x := range goal {
		if !isSpan(x.Lo, x.Hi, r.Places[i]) {
			return api.ErrRange
		}
	}
	return api.OK
}

// maxStates is how many states a rig has at most.
const maxStates = api.MaxPlaces * api.MaxPlaces * api.MaxPlaces * api.MaxPlaces

// result is where a move leads if so many of its commands are lost: by how much the number of the state changes.
type result struct {
	change, lost int
}

// choice is an allowed move of a state, with all its results.
type choice struct {
	move    []int
	results []result
}

// search looks for a goal, with a limit to losses. States are numbers in a mixed base, the place of the last machine counts 1.
type search struct {
	rig     api.Rig
	goal    []api.Span
	losses  int
	weights []int
	safe    [maxStates]bool
	// ticks are the least ticks by losses and state, where known says so.
	known [api.MaxLosses + 1][maxStates]bool
	ticks [api.MaxLosses + 1][maxStates]int
}

// number is that of a state.
func (x *search) number(s []int) int {
	n := 0
	for i, p := range s {
		n += p * x.weights[i]
	}
	return n
}

// state is that with the number.
func (x *search) state(n int) []int {
	var s []int
	for i, w := range x.weights {
		s = append(s, n/w%x.rig.Places[i])
	}
	return s
}

// size is how many states there are.
func (x *search) size() int {
	return x.weights[0] * x.rig.Places[0]
}

// inGoal reports whether a state is in the goal.
func (x *search) inGoal(s []int) bool {
	for i, p := range s {
		if p < x.goal[i].Lo || p > x.goal[i].Hi {
			return false
		}
	}
	return true
}

// results are those of a move, the one without losses first.
func (x *search) results(m []int) []result {
	l := []result{{}}
	for i, n := range m {
		if n == 0 {
			continue
		}
		for _, r := range l {
			l = append(l, result{r.change, r.lost + 1})
		}
		for j := range len(l) / 2 {
			l[j].change += n * x.weights[i]
		}
	}
	return slices.DeleteFunc(l, func(r result) bool { return r.lost > x.losses })
}

// choices are those of all safe states, by number.
func (x *search) choices() [][]choice {
	var all []choice
	for m := range moves(len(x.weights)) {
		all = append(all, choice{slices.Clone(m), x.results(m)})
	}
	l := make([][]choice, x.size())
	for n := range l {
		if !x.safe[n] {
			continue
		}
		s := x.state(n)
		for _, c := range all {
			if ok, _ := allowed(x.rig, s, c.move); ok {
				l[n] = append(l[n], c)
			}
		}
	}
	return l
}

// leads reports whether all results of a choice in a state, with so many losses left, are known.
func (x *search) leads(n, losses int, c choice) bool {
	for _, r := range c.results {
		if r.lost <= losses && !x.known[losses-r.lost][n+r.change] {
			return false
		}
	}
	return true
}

// find finds the least ticks of all states, by layers of equal ones.
func (x *search) find() {
	l := x.choices()
	type found struct{ losses, number int }
	var open []found
	for n := range l {
		for losses := range x.losses + 1 {
			if x.known[losses][n] = x.safe[n] && x.inGoal(x.state(n)); x.safe[n] && !x.known[losses][n] {
				open = append(open, found{losses, n})
			}
		}
	}
layers:
	for ticks := 1; ticks <= api.MaxSpell; ticks++ {
		var layer, rest []found
		for _, f := range open {
			leads := func(c choice) bool { return x.leads(f.number, f.losses, c) }
			if slices.ContainsFunc(l[f.number], leads) {
				layer = append(layer, f)
			} else {
				rest = append(rest, f)
			}
		}
		if len(layer) == 0 {
			break layers
		}
		for _, f := range layer {
			x.known[f.losses][f.number], x.ticks[f.losses][f.number] = true, ticks
		}
		open = rest
	}
}

// newSearch has found the least ticks to a valid goal.
func newSearch(r api.Rig, goal []api.Span, losses int) *search {
	x := &search{rig: r, goal: goal, losses: losses, weights: slices.Repeat([]int{1}, len(r.Places))}
	for i := len(r.Places) - 1; i > 0; i-- {
		x.weights[i-1] = x.weights[i] * r.Places[i]
	}
	for n := range x.size() {
		s := x.state(n)
		x.safe[n] = forbids(r, s, s) < 0
	}
	x.find()
	return x
}

// isLosses reports whether so many commands may be lost.
func isLosses(losses int) bool {
	return 0 <= losses && losses <= api.MaxLosses
}

// reach searches a goal from a state, or returns the first error of both.
func reach(r api.Rig, s []int, goal []api.Span, losses int) (*search, api.Errno) {
	if e := CheckState(r, s); e != api.OK {
		return nil, e
	}
	if e := checkSpans(r, goal); e != api.OK {
		return nil, e
	}
	if !isLosses(losses) {
		return nil, api.ErrRange
	}
	x := newSearch(r, goal, losses)
	if !x.known[losses][x.number(s)] {
		return nil, api.ErrLate
	}
	return x, api.OK
}

// Ticks returns the least ticks from a state to a goal.
func Ticks(r api.Rig, s []int, goal []api.Span, losses int) (int, api.Errno) {
	x, e := reach(r, s, goal, losses)
	if e != api.OK {
		return 0, e
	}
	return x.ticks[losses][x.number(s)], api.OK
}

// Next returns the best move from a state to a goal.
func Next(r api.Rig, s []int, goal []api.Span, losses int) ([]int, api.Errno) {
	x, e := reach(r, s, goal, losses)
	if e != api.OK {
		return nil, e
	}
	n := x.number(s)
	if x.ticks[losses][n] == 0 {
		return make([]int, len(s)), api.OK
	}
	for m := range moves(len(s)) {
		if ok, _ := allowed(r, s, m); !ok {
			continue
		}
		late := func(c result) bool {
			left := losses - c.lost
			return !x.known[left][n+c.change] || x.ticks[left][n+c.change] >= x.ticks[losses][n]
		}
		if !slices.ContainsFunc(x.results(m), late) {
			return slices.Clone(m), api.OK
		}
	}
	return nil, api.ErrLate
}

// Ready returns the greatest of the least ticks of all safe states, and how many safe states have none.
func Ready(r api.Rig, goal []api.Span, losses int) (worst, stuck int, e api.Errno) {
	if e := CheckGoal(r, goal); e != api.OK {
		return 0, 0, e
	}
	if !isLosses(losses) {
		return 0, 0, api.ErrRange
	}
	x := newSearch(r, goal, losses)
	for n := range x.size() {
		switch {
		case x.known[losses][n]:
			worst = max(worst, x.ticks[losses][n])
		case x.safe[n]:
			stuck++
		}
	}
	return worst, stuck, api.OK
}
