package earth

import (
	"iter"

	"moonpool/api"
)

// Add returns the earth with a report more.
func Add(e api.Earth, r api.Report) (api.Earth, api.Errno) {
	if err := Check(e); err != api.OK {
		return api.Earth{}, err
	}
	more := Copy(e)
	more.Reports = append(more.Reports, r)
	if err := Check(more); err != api.OK {
		return api.Earth{}, err
	}
	return more, api.OK
}

// contradicts reports whether a valid earth contradicts itself.
func contradicts(e api.Earth) bool {
	for _, z := range depths(e) {
		if pore, frac := ranges(e, z); pore.Lo > pore.Hi || frac.Lo > frac.Hi {
			return true
		}
	}
	return false
}

// sets hands out the sets of at most two of n reports, the lesser ones first. Greater sets need not be looked at: one bound of one report is above one of another, and then it is so at the depths of both.
func sets(n int) iter.Seq[[]int] {
	return func(yield func([]int) bool) {
		if !yield(nil) {
			return
		}
		for i := range n {
			if !yield([]int{i}) {
				return
			}
		}
		for i := range n {
			for j := i + 1; j < n; j++ {
				if !yield([]int{i, j}) {
					return
				}
			}
		}
	}
}

// with is the earth with the reports of a set alone.
func with(e api.Earth, set []int) api.Earth {
	all := e.Reports
	e.Reports = nil
	for _, i := range set {
		e.Reports = append(e.Reports, all[i])
	}
	return e
}

// holds reports whether all of the lesser ascending list is in the set.
func holds(set, lesser []int) bool {
	for _, i := range set {
		if len(lesser) > 0 && lesser[0] == i {
			lesser = lesser[1:]
		}
	}
	return len(lesser) == 0
}

// Conflicts returns all sets of reports that conflict.
func Conflicts(e api.Earth) [][]int {
	if Check(e) != api.OK {
		return nil
	}
	var found [][]int
next:
	for set := range sets(len(e.Reports)) {
		for _, lesser := range found {
			if holds(set, lesser) {
				continue next
			}
		}
		if contradicts(with(e, set)) {
			found = append(found, set)
		}
	}
	return found
}
