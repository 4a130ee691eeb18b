package casing

import (
	"slices"

	"moonpool/api"
	"moonpool/whole"
)

// isChoice reports whether the list has one number of a grade for each section of a valid job.
func isChoice(j api.Job, choice []int) bool {
	missing := func(g int) bool { return g < 0 || g >= len(j.Grades) }
	return len(choice) == len(j.Ends) && !slices.ContainsFunc(choice, missing)
}

// pulls are those in the sections, for a choice.
func pulls(j api.Job, choice []int) []int64 {
	l := make([]int64, len(choice))
	for i, s := range sections(j) {
		weight := j.Grades[choice[i]].Weight * (s.to - s.from)
		for above := range i + 1 {
			l[above] += weight
		}
		l[i] += j.Over
	}
	return l
}

// Pulls returns the pull in each section.
func Pulls(j api.Job, choice []int) []int64 {
	if Check(j) != api.OK || !isChoice(j, choice) {
		return nil
	}
	return pulls(j, choice)
}

// cost is that of a choice.
func cost(j api.Job, choice []int) int64 {
	sum := int64(0)
	for i, s := range sections(j) {
		sum += j.Grades[choice[i]].Cost * (s.to - s.from)
	}
	return sum
}

// Cost returns the cost of a choice.
func Cost(j api.Job, choice []int) int64 {
	if Check(j) != api.OK || !isChoice(j, choice) {
		return 0
	}
	return cost(j, choice)
}

// need is the strength that a section needs against all loads.
type need struct {
	burst, collapse int64
}

// needs are those of all sections of a valid job.
func needs(j api.Job) []need {
	var l []need
	for _, s := range sections(j) {
		n := need{}
		for _, load := range j.Loads {
			n.burst = max(n.burst, Needed(Inside(load, s.from, s.to), j.Factor))
			n.collapse = max(n.collapse, Needed(Outside(load, s.from, s.to), j.Factor))
		}
		l = append(l, n)
	}
	return l
}

// weakness is why a grade does not bear what is needed under a pull, 0 if it does.
func weakness(g api.Grade, n need, pull int64) int {
	if n.burst > g.Burst {
		return api.WhyBurst
	}
	if pull > g.Pull {
		return api.WhyPull
	}
	share := whole.Floor(1000*(g.Pull-pull), g.Pull)
	if n.collapse > whole.Floor(g.Collapse*share, 1000) {
		return api.WhyCollapse
	}
	return 0
}

// weakest is the first section that does not bear, and why; -1 and 0 if all do.
func weakest(j api.Job, l []need, choice []int) (int, int) {
	for i, pull := range pulls(j, choice) {
		if why := weakness(j.Grades[choice[i]], l[i], pull); why != 0 {
			return i, why
		}
	}
	return -1, 0
}

// Bears returns the first section that does not bear, and why.
func Bears(j api.Job, choice []int) (section, why int, e api.Errno) {
	if e := Check(j); e != api.OK {
		return 0, 0, e
	}
	if !isChoice(j, choice) {
		return 0, 0, api.ErrRange
	}
	section, why = weakest(j, needs(j), choice)
	return section, why, api.OK
}

// best is the best choice so far, if there is one.
type best struct {
	choice []int
	cost   int64
}

// isWorse reports whether the best choice so far is worse than one of this cost.
func (b *best) isWorse(cost int64) bool {
	return b.choice == nil || cost < b.cost
}

// offer keeps a choice if it bears, and is better than the best one so far.
func offer(b *best, j api.Job, l []need, choice []int) {
	c := cost(j, choice)
	if !b.isWorse(c) {
		return
	}
	if section, _ := weakest(j, l, choice); section < 0 {
		b.choice, b.cost = slices.Clone(choice), c
	}
}

// Choose returns the best choice. It goes through all choices in lexicographic order, so the first of equal ones stays.
func Choose(j api.Job) ([]int, bool) {
	if Check(j) != api.OK {
		return nil, false
	}
	l := needs(j)
	var b best
	var choice []int
	var extend func()
	extend = func() {
		if len(choice) == len(j.Ends) {
			offer(&b, j, l, choice)
			return
		}
		for g := range j.Grades {
			choice = append(choice, g)
			extend()
			choice = choice[:len(choice)-1]
		}
	}
	extend()
	return b.choice, b.choice != nil
}
