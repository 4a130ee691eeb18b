package kill

import (
	"moonpool/api"
	"moonpool/whole"
)

// checkList returns the first error of a list of volumes or pore pressures, but for its numbers.
func checkList(l []int64) api.Errno {
	if len(l) == 0 {
		return api.ErrShort
	}
	if len(l) > api.MaxKicks {
		return api.ErrFull
	}
	for i := 1; i < len(l); i++ {
		if l[i] <= l[i-1] {
			return api.ErrOrder
		}
	}
	return api.OK
}

// checkSet returns the first error of a set of kicks.
func checkSet(volumes, pores []int64) api.Errno {
	for _, l := range [][]int64{volumes, pores} {
		if e := checkList(l); e != api.OK {
			return e
		}
	}
	for _, v := range volumes {
		if !isVolume(v) {
			return api.ErrRange
		}
	}
	for _, p := range pores {
		if !isPore(p) {
			return api.ErrRange
		}
	}
	return api.OK
}

// Verify returns the first kick of a set that is not killed, or the last one, and its outcome.
func Verify(w api.Well, p api.Program, volumes, pores []int64) (api.Bubble, api.Outcome, api.Errno) {
	if e := Check(w); e != api.OK {
		return api.Bubble{}, api.Outcome{}, e
	}
	if e := CheckProgram(p); e != api.OK {
		return api.Bubble{}, api.Outcome{}, e
	}
	if e := checkSet(volumes, pores); e != api.OK {
		return api.Bubble{}, api.Outcome{}, e
	}
	var k api.Bubble
	var o api.Outcome
kicks:
	for _, v := range volumes {
		for _, pore := range pores {
			k = api.Bubble{Volume: v, Pore: pore}
			o = newFight(w, p, k).outcome()
			if o.Is != api.Killed {
				break kicks
			}
		}
	}
	return k, o, api.OK
}

// Tolerance returns up to which multiple of a volume all kicks are killed.
func Tolerance(w api.Well, p api.Program, pore, step int64, most int) (int, api.Errno) {
	if e := Check(w); e != api.OK {
		return 0, e
	}
	if e := CheckProgram(p); e != api.OK {
		return 0, e
	}
	if !isPore(pore) || !whole.Within(step, 1, 1<<16) || most < 0 || most > 64 {
		return 0, api.ErrRange
	}
	for n := 1; n <= most; n++ {
		k := api.Bubble{Volume: int64(n) * step, Pore: pore}
		if newFight(w, p, k).outcome().Is != api.Killed {
			return n - 1, api.OK
		}
	}
	return most, api.OK
}

// Choose returns the first program with which all kicks of a set are killed, -1 if there is none.
func Choose(w api.Well, l []api.Program, volumes, pores []int64) (int, api.Errno) {
	if len(l) > api.MaxKicks {
		return 0, api.ErrFull
	}
	for i, p := range l {
		_, o, e := Verify(w, p, volumes, pores)
		if e != api.OK {
			return 0, e
		}
		if o.Is == api.Killed {
			return i, api.OK
		}
	}
	return -1, api.OK
}
