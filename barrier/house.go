// Package barrier is layer 9: it keeps the barriers of a well, decides whether enough independent ones stand, finds what would have to fail, and keeps the records of who commands, permits and does what, so that each state can be replayed.
package barrier

import (
	"slices"

	"moonpool/api"
	"moonpool/whole"
)

// maxUntil is the last tick until which a test or a permit may count.
const maxUntil = 1 << 41

// checkElement returns the first error of an element.
func checkElement(x api.Element) api.Errno {
	if x.State < api.Absent || x.State > api.Failed {
		return api.ErrKind
	}
	if !whole.Within(x.Bears, 0, api.MaxPress) || !whole.Within(x.Tested, 0, api.MaxTick) || !whole.Within(x.Until, x.Tested, maxUntil) {
		return api.ErrRange
	}
	return api.OK
}

// checkEnvelope returns the first error of an envelope of so many elements.
func checkEnvelope(envelope []int, elements int) api.Errno {
	if len(envelope) == 0 {
		return api.ErrShort
	}
	last := -1
	for _, i := range envelope {
		if i <= last || i >= elements {
			return api.ErrOrder
		}
		last = i
	}
	return api.OK
}

// CheckHouse returns the first error of a house.
func CheckHouse(h api.House) api.Errno {
	if len(h.Elements) == 0 {
		return api.ErrShort
	}
	if len(h.Elements) > api.MaxElements || len(h.Envelopes) > api.MaxEnvelopes {
		return api.ErrFull
	}
	for _, x := range h.Elements {
		if e := checkElement(x); e != api.OK {
			return e
		}
	}
	for _, envelope := range h.Envelopes {
		if e := checkEnvelope(envelope, len(h.Elements)); e != api.OK {
			return e
		}
	}
	if h.Need < 1 || h.Need > api.MaxNeed {
		return api.ErrRange
	}
	return api.OK
}

// set is a set of elements: the bit i is for the element i.
type set int

func setOf(elements []int) set {
	s := set(0)
	for _, i := range elements {
		s |= 1 << i
	}
	return s
}

func (s set) has(i int) bool {
	return s>>i&1 == 1
}

// elements are those of the set, ascending.
func (s set) elements() []int {
	var l []int
	for i := range api.MaxElements {
		if s.has(i) {
			l = append(l, i)
		}
	}
	return l
}

func isEffective(x api.Element, tick, press int64) bool {
	return x.State == api.Sound && whole.Within(tick, x.Tested, x.Until) && x.Bears >= press
}

// effective are the effective elements of a valid house.
func effective(h api.House, tick, press int64) set {
	s := set(0)
	for i, x := range h.Elements {
		if isEffective(x, tick, press) {
			s |= 1 << i
		}
	}
	return s
}

// standing are the envelopes that stand if these elements are effective.
func standing(h api.House, good set) []int {
	var l []int
	for n, envelope := range h.Envelopes {
		if setOf(envelope)&^good == 0 {
			l = append(l, n)
		}
	}
	return l
}

// proof is the proof of the rule if these elements are effective, and whether the rule holds.
func proof(h api.House, good set) ([]int, bool) {
	stand := standing(h, good)
	var chosen []int
	var extend func(from int, used set) bool
	extend = func(from int, used set) bool {
		if len(chosen) == h.Need {
			return true
		}
		for i := from; i < len(stand); i++ {
			s := setOf(h.Envelopes[stand[i]])
			if s&used != 0 {
				continue
			}
			chosen = append(chosen, stand[i])
			if extend(i+1, used|s) {
				return true
			}
			chosen = chosen[:len(chosen)-1]
		}
		return false
	}
	if !extend(0, 0) {
		return nil, false
	}
	return chosen, true
}

// holds reports whether the rule holds if these elements are effective.
func holds(h api.House, good set) bool {
	_, ok := proof(h, good)
	return ok
}

// Effective reports whether the element i is effective.
func Effective(h api.House, i int, tick, press int64) bool {
	return CheckHouse(h) == api.OK && 0 <= i && i < len(h.Elements) && isEffective(h.Elements[i], tick, press)
}

// Standing returns the envelopes that stand.
func Standing(h api.House, tick, press int64) []int {
	if CheckHouse(h) != api.OK {
		return nil
	}
	return standing(h, effective(h, tick, press))
}

// Proof returns the proof that the rule holds, if it does.
func Proof(h api.House, tick, press int64) ([]int, bool) {
	if CheckHouse(h) != api.OK {
		return nil, false
	}
	return proof(h, effective(h, tick, press))
}

// isCut reports whether the rule does not hold without the elements of a set, but with each one of them. If it holds with each one of them, it does so without any lesser set.
func isCut(h api.House, good, cut set) bool {
	if cut&^good != 0 || holds(h, good&^cut) {
		return false
	}
	return !slices.ContainsFunc(cut.elements(), func(i int) bool { return !holds(h, good&^cut|1<<i) })
}

// Cuts returns all cuts.
func Cuts(h api.House, tick, press int64) [][]int {
	if CheckHouse(h) != api.OK {
		return nil
	}
	good := effective(h, tick, press)
	if !holds(h, good) {
		return nil
	}
	var cuts [][]int
	for s := range 1 << len(h.Elements) {
		if isCut(h, good, set(s)) {
			cuts = append(cuts, set(s).elements())
		}
	}
	slices.SortFunc(cuts, func(a, b []int) int {
		if len(a) != len(b) {
			return len(a) - len(b)
		}
		return slices.Compare(a, b)
	})
	return cuts
}

// lapse is the least tick after the given one at which the rule does not hold: an element has lapsed just then.
func lapse(h api.House, tick, press int64) int64 {
	var ends []int64
	for _, x := range h.Elements {
		if x.Until >= tick {
			ends = append(ends, x.Until+1)
		}
	}
	slices.Sort(ends)
	i := slices.IndexFunc(ends, func(end int64) bool { return !holds(h, effective(h, end, press)) })
	return ends[i]
}

// Lapse returns the least tick after the given one at which the rule does not hold any more.
func Lapse(h api.House, tick, press int64) (int64, bool) {
	if _, ok := Proof(h, tick, press); !ok || !whole.Within(tick, 0, api.MaxTick) {
		return 0, false
	}
	return lapse(h, tick, press), true
}
