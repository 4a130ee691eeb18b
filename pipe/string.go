// Package pipe is layer 4: it keeps drill strings: their parts and tallies, what they weigh, the tension and the torque that they bear in a path, with bounds for friction, when they buckle, and how their life is used.
package pipe

import (
	"slices"

	"moonpool/api"
	"moonpool/whole"
)

// maxUsed is the greatest use of a tube's life that can be counted.
const maxUsed = 1 << 40

func validTube(t api.Tube) bool {
	return whole.Within(t.Count, 1, api.MaxCount) && whole.Within(t.Len, 100, 4000) &&
		whole.Within(t.Air, 1, api.MaxAir) && whole.Within(t.Steel, 1, api.MaxSteel) && whole.Within(t.Out, 2, api.MaxOut) &&
		whole.Within(t.Yield, 1, api.MaxForce) && whole.Within(t.Twist, 1, api.MaxTwist) &&
		whole.Within(t.Stiff, 0, api.MaxStiff) && whole.Within(t.Used, 0, maxUsed)
}

// length is that of a string of valid tubes.
func length(s api.String) int64 {
	sum := int64(0)
	for _, t := range s.Tubes {
		sum += t.Count * t.Len
	}
	return sum
}

// Check returns the first error of a string.
func Check(s api.String) api.Errno {
	if len(s.Tubes) == 0 {
		return api.ErrShort
	}
	if len(s.Tubes) > api.MaxTubes {
		return api.ErrFull
	}
	for _, t := range s.Tubes {
		if !validTube(t) {
			return api.ErrRange
		}
	}
	if length(s) > api.MaxDepth {
		return api.ErrLong
	}
	return api.OK
}

// Length returns the length of a string.
func Length(s api.String) int64 {
	if Check(s) != api.OK {
		return 0
	}
	return length(s)
}

// Wet returns what a cm of a tube weighs in a mud.
func Wet(t api.Tube, mud int64) int64 {
	const most = 1000000000
	if !whole.Within(t.Air, 0, most) || !whole.Within(t.Steel, 0, most) || !whole.Within(mud, 0, most) {
		return 0
	}
	return t.Air - mud*t.Steel
}

// Weight returns what a string weighs in a mud.
func Weight(s api.String, mud int64) int64 {
	if Check(s) != api.OK || !whole.Within(mud, 0, api.MaxWeight) {
		return 0
	}
	sum := int64(0)
	for _, t := range s.Tubes {
		sum += Wet(t, mud) * t.Count * t.Len
	}
	return sum
}

// Joints returns the distances of the joints of a string from the bit.
func Joints(s api.String) []int64 {
	if Check(s) != api.OK {
		return nil
	}
	at := []int64{0}
	for _, t := range s.Tubes {
		for range t.Count {
			at = append(at, at[len(at)-1]+t.Len)
		}
	}
	return at
}

// Near reports whether a joint is from from to to from the bit.
func Near(s api.String, from, to int64) bool {
	return slices.ContainsFunc(Joints(s), func(at int64) bool { return whole.Within(at, from, to) })
}

// Add returns the string with one more tube at the upper end.
func Add(s api.String, t api.Tube) (api.String, api.Errno) {
	if len(s.Tubes) > 0 {
		if e := Check(s); e != api.OK {
			return api.String{}, e
		}
	}
	more := api.String{Tubes: append(slices.Clone(s.Tubes), t)}
	if e := Check(more); e != api.OK {
		return api.String{}, e
	}
	return more, api.OK
}

// Drop returns the string without so many lengths at the upper end.
func Drop(s api.String, joints int64) (api.String, api.Errno) {
	if e := Check(s); e != api.OK {
		return api.String{}, e
	}
	if !whole.Within(joints, 1, int64(len(Joints(s))-1)) {
		return api.String{}, api.ErrMissing
	}
	tubes := slices.Clone(s.Tubes)
shorten:
	for i := len(tubes) - 1; i >= 0; i-- {
		switch count := tubes[i].Count; {
		case joints < count:
			tubes[i].Count -= joints
			break shorten
		default:
			joints -= count
			tubes = tubes[:i]
		}
	}
	return api.String{Tubes: tubes}, api.OK
}

// Same reports whether two strings are equal.
func Same(a, b api.String) bool {
	return slices.Equal(a.Tubes, b.Tubes)
}
