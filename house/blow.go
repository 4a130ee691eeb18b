package house

import (
	"slices"

	"moonpool/api"
)

// CheckBlow returns the first error of a blow-out.
func CheckBlow(b api.Blow) api.Errno {
	if len(b.Lost) == 0 {
		return api.ErrShort
	}
	if len(b.Lost) > api.MaxStates {
		return api.ErrFull
	}
	if len(b.Moves) != len(b.Lost) {
		return api.ErrForm
	}
	for _, moves := range b.Moves {
		if len(moves) == 0 {
			return api.ErrShort
		}
		if len(moves) > api.MaxActions {
			return api.ErrFull
		}
		if slices.ContainsFunc(moves, func(s int) bool { return !hasState(b, s) }) {
			return api.ErrRange
		}
	}
	return api.OK
}

// hasState reports whether a blow-out has the state.
func hasState(b api.Blow, s int) bool {
	return 0 <= s && s < len(b.Lost)
}

// Safe returns for each state whether it is safe: all are that are not lost, but for those without an action that leads to a safe one, until there are no more of these.
func Safe(b api.Blow) []bool {
	if CheckBlow(b) != api.OK {
		return nil
	}
	safe := make([]bool, len(b.Lost))
	for s, lost := range b.Lost {
		safe[s] = !lost
	}
	isSafe := func(s int) bool { return safe[s] }
anew:
	for {
		for s, moves := range b.Moves {
			if safe[s] && !slices.ContainsFunc(moves, isSafe) {
				safe[s] = false
				continue anew
			}
		}
		return safe
	}
}

// Chance returns the place in a run of its last chance.
func Chance(b api.Blow, run []int) (int, bool) {
	if CheckBlow(b) != api.OK || len(run) > api.MaxRun || slices.ContainsFunc(run, func(s int) bool { return !hasState(b, s) }) {
		return 0, false
	}
	safe := Safe(b)
	for i := len(run) - 1; i >= 0; i-- {
		if safe[run[i]] {
			return i, true
		}
	}
	return 0, false
}

// Way returns the states through which a safe state can be left for ever.
func Way(b api.Blow, state int) []int {
	safe := Safe(b)
	if state < 0 || state >= len(safe) || !safe[state] {
		return nil
	}
	isSafe := func(s int) bool { return safe[s] }
	var way []int
	for !slices.Contains(way, state) {
		way = append(way, state)
		moves := b.Moves[state]
		state = moves[slices.IndexFunc(moves, isSafe)]
	}
	return append(way, state)
}

// Wild returns the wild well.
func Wild(limit, rate, time int) (api.Blow, api.Errno) {
	if limit < 1 || limit > 15 || rate < 1 || rate > 15 || time < 0 || time > 3 {
		return api.Blow{}, api.ErrRange
	}
	if (limit+1)*(time+1) > api.MaxStates {
		return api.Blow{}, api.ErrFull
	}
	var b api.Blow
	for gas := range limit + 1 {
		for closing := range time + 1 {
			own := gas*(time+1) + closing
			moves := []int{own, own}
			if closing < time {
				waiting := min(limit, gas+rate)*(time+1) + closing
				moves = []int{waiting, waiting + 1}
			}
			b.Lost = append(b.Lost, gas == limit)
			b.Moves = append(b.Moves, moves)
		}
	}
	return b, api.OK
}
