package rig

import (
	"slices"
	"testing"

	"moonpool/api"
)

func TestP8_5CheckGoal(t *testing.T) {
	for i, c := range []struct {
		goal []api.Span
		e    api.Errno
	}{
		{spans(2, 2, 0, 0), api.OK}, {spans(0, 2, 0, 2), api.OK}, {spans(2, 2), api.ErrForm}, {spans(2, 2, 0, 0, 0, 0), api.ErrForm}, {nil, api.ErrForm}, {spans(-1, 2, 0, 0), api.ErrRange}, {spans(2, 1, 0, 0), api.ErrRange}, {spans(2, 3, 0, 0), api.ErrRange}, {spans(0, 0, 0, 3), api.ErrRange},
	} {
		e := CheckGoal(example(), c.goal)
		n, f := Ticks(example(), []int{0, 2}, c.goal, 9)
		m, g := Next(example(), []int{0, 2}, c.goal, 9)
		_, _, h := Ready(example(), c.goal, 9)
		if c.e == api.OK {
			f, g, h = f-api.ErrRange, g-api.ErrRange, h-api.ErrRange // because of the losses
		}
		if e != c.e || f != c.e || g != c.e || h != c.e || n != 0 || m != nil {
			t.Error(i, e, f, g, h)
		}
	}
}

func TestP8_5Examples(t *testing.T) {
	goal := spans(2, 2, 0, 0)
	for losses, want := range map[int]int{0: 4, 1: 5, 2: 6} {
		if n, e := Ticks(example(), []int{0, 2}, goal, losses); n != want || e != api.OK {
			t.Error(losses, n, e)
		}
		if m, e := Next(example(), []int{0, 2}, goal, losses); !slices.Equal(m, []int{0, -1}) || e != api.OK {
			t.Error(losses, m, e)
		}
		if m, e := Next(example(), []int{2, 0}, goal, losses); !slices.Equal(m, []int{0, 0}) || e != api.OK {
			t.Error(losses, m, e)
		}
	}
	for _, losses := range []int{-1, 3, -1 << 63} {
		if n, e := Ticks(example(), []int{0, 2}, goal, losses); n != 0 || e != api.ErrRange {
			t.Error(n, e)
		}
		if m, e := Next(example(), []int{0, 2}, goal, losses); m != nil || e != api.ErrRange {
			t.Error(m, e)
		}
		if worst, stuck, e := Ready(example(), goal, losses); worst != 0 || stuck != 0 || e != api.ErrRange {
			t.Error(worst, stuck, e)
		}
	}
	// A wall between both halves.
	walled := api.Rig{Places: []int{5, 2}, Bans: []api.Ban{ban6(0, 2, 2, 1, 0, 1)}}
	if n, e := Ticks(walled, []int{0, 0}, spans(4, 4, 0, 1), 0); n != 0 || e != api.ErrLate {
		t.Error(n, e)
	}
	if m, e := Next(walled, []int{0, 0}, spans(4, 4, 0, 1), 0); m != nil || e != api.ErrLate {
		t.Error(m, e)
	}
	// Equal moves: the first one by machines, with -1 first.
	free := api.Rig{Places: []int{5, 5}}
	if m, _ := Next(free, []int{2, 2}, spans(0, 4, 0, 0), 0); !slices.Equal(m, []int{-1, -1}) {
		t.Error(m)
	}
	if m, _ := Next(free, []int{2, 2}, spans(4, 4, 0, 4), 0); !slices.Equal(m, []int{1, -1}) {
		t.Error(m)
	}
}

func TestP8_6Ready(t *testing.T) {
	walled := api.Rig{Places: []int{5, 2}, Bans: []api.Ban{ban6(0, 2, 2, 1, 0, 1)}}
	for i, c := range []struct {
		r            api.Rig
		goal         []api.Span
		losses       int
		worst, stuck int
		e            api.Errno
	}{
		{example(), spans(2, 2, 0, 0), 0, 4, 0, api.OK}, {example(), spans(2, 2, 0, 0), 2, 6, 0, api.OK}, {walled, spans(4, 4, 0, 1), 2, 3, 4, api.OK}, {walled, spans(0, 4, 0, 1), 2, 0, 0, api.OK},
		{walled, spans(2, 2, 0, 1), 0, 0, 8, api.OK}, // no safe state is in the goal
		{api.Rig{}, nil, 9, 0, 0, api.ErrShort}, {walled, spans(4, 4), 9, 0, 0, api.ErrForm}, {walled, spans(4, 5, 0, 1), 9, 0, 0, api.ErrRange}, {walled, spans(4, 4, 0, 1), 3, 0, 0, api.ErrRange}, {walled, spans(4, 4, 0, 1), -1, 0, 0, api.ErrRange},
	} {
		if worst, stuck, e := Ready(c.r, c.goal, c.losses); worst != c.worst || stuck != c.stuck || e != c.e {
			t.Error(i, worst, stuck, e)
		}
	}
}

// oracle finds the least ticks by the words of the document, without layers: the least n for each n anew.
type oracle struct {
	r     api.Rig
	goal  []api.Span
	known map[[6]int]bool // within n ticks from a state with so many losses
}

func (o *oracle) within(s []int, losses, n int) bool {
	in := true
	for i, p := range s {
		in = in && o.goal[i].Lo <= p && p <= o.goal[i].Hi
	}
	if in || n == 0 {
		return in
	}
	key := [6]int{losses, n}
	for i, p := range s {
		key[2+i] = p + 1
	}
	if yes, ok := o.known[key]; ok {
		return yes
	}
	yes := slices.ContainsFunc(Moves(o.r, s), func(m []int) bool { return o.holds(s, m, losses, n) })
	o.known[key] = yes
	return yes
}

// holds reports whether a move leads to states within n - 1 ticks, whatever is lost.
func (o *oracle) holds(s, m []int, losses, n int) bool {
	for set := range 1 << len(s) {
		var lost []int
		moving := true
		for i := range s {
			if set>>i&1 == 1 {
				lost = append(lost, i)
				moving = moving && m[i] != 0
			}
		}
		if len(lost) > losses || !moving {
			continue
		}
		if to, _ := Step(o.r, s, m, lost); !o.within(to, losses-len(lost), n-1) {
			return false
		}
	}
	return true
}

// TestP8_14 compares Ticks and Next with the oracle in all safe states, and Ready with the greatest of them: P8.5, P8.6 and P8.14.
func TestP8_14(t *testing.T) {
	roll := dice(85)
	late, far := 0, 0
	for range 60 {
		machines := 2 + roll(2)
		r := randomRig(roll, machines, 6-machines)
		var goal []api.Span
		for _, n := range r.Places {
			lo := roll(n)
			goal = append(goal, api.Span{Lo: lo, Hi: lo + roll(n-lo)})
		}
		losses := roll(3)
		o := oracle{r, goal, map[[6]int]bool{}}
		worst, stuck := 0, 0
		for _, s := range states(r) {
			if CheckState(r, s) != api.OK {
				continue
			}
			n := 0
			for n < 20 && !o.within(s, losses, n) {
				n++
			}
			got, e := Ticks(r, s, goal, losses)
			move, f := Next(r, s, goal, losses)
			if n == 20 {
				late++
				stuck++
				if e != api.ErrLate || f != api.ErrLate || got != 0 || move != nil {
					t.Fatal(r, s, goal, losses, got, e)
				}
				continue
			}
			far = max(far, n)
			worst = max(worst, n)
			want := make([]int, len(s))
			if n > 0 {
				l := Moves(r, s)
				want = l[slices.IndexFunc(l, func(m []int) bool { return o.holds(s, m, losses, n) })]
			}
			if got != n || e != api.OK || f != api.OK || !slices.Equal(move, want) {
				t.Fatal(r, s, goal, losses, got, n, move, want)
			}
		}
		if a, b, e := Ready(r, goal, losses); a != worst || b != stuck || e != api.OK {
			t.Fatal(a, b, worst, stuck)
		}
	}
	if late < 20 || far < 6 {
		t.Error(late, far)
	}
}

// TestP8_10 plays the best moves against losses: P8.10 and P8.11.
func TestP8_10(t *testing.T) {
	roll := dice(810)
	for range 60 {
		r := randomRig(roll, 4, 4)
		s, ok := safeState(roll, r)
		if !ok {
			continue
		}
		goal := spans(0, 0, 0, 1, 0, 1, 0, 1)
		losses := roll(3)
		n, e := Ticks(r, s, goal, losses)
		if e != api.OK {
			continue
		}
		if m, e := Ticks(r, s, goal, max(0, losses-1)); e != api.OK || m > n {
			t.Fatal("P8.11, fewer losses", m, n)
		}
		if m, e := Ticks(r, s, spans(0, 1, 0, 1, 0, 1, 0, 1), losses); e != api.OK || m > n {
			t.Fatal("P8.11, a wider goal", m, n)
		}
		free := r
		free.Bans = nil
		if m, e := Ticks(free, s, goal, losses); e != api.OK || m > n {
			t.Fatal("P8.11, fewer bans", m, n)
		}
		left := losses
		for tick := 0; ; tick++ {
			m, e := Ticks(r, s, goal, left)
			if e != api.OK || m > n-tick {
				t.Fatal("P8.10", m, n, tick)
			}
			if m == 0 {
				break
			}
			move, _ := Next(r, s, goal, left)
			var lost []int
			for i := range move {
				if move[i] != 0 && left > 0 && roll(2) == 0 {
					lost = append(lost, i)
					left--
				}
			}
			s, _ = Step(r, s, move, lost)
		}
	}
}

// TestP8_5Long has a way that takes just as many ticks as there may be, and one that takes one more: along four corridors of two machines, to the next level of the third one, and back.
func TestP8_5Long(t *testing.T) {
	r := api.Rig{Places: []int{8, 8, 8}, Bans: []api.Ban{
		ban6(0, 0, 6, 1, 1, 1), ban6(0, 1, 7, 1, 3, 3), ban6(0, 0, 6, 1, 5, 5),
		ban6(0, 1, 7, 2, 1, 1), ban6(1, 0, 5, 2, 1, 1), ban6(1, 7, 7, 2, 1, 1),
	}}
	start := []int{0, 0, 0}
	for i, c := range []struct {
		goal []api.Span
		want int
		e    api.Errno
	}{
		{spans(0, 0, 6, 6, 0, 0), 34, api.OK}, {spans(0, 7, 0, 7, 2, 2), 36, api.OK}, {spans(6, 6, 0, 0, 2, 2), 64, api.OK}, {spans(5, 5, 0, 0, 2, 2), 0, api.ErrLate},
	} {
		if n, e := Ticks(r, start, c.goal, 0); n != c.want || e != c.e {
			t.Error(i, n, e)
		}
	}
	if worst, stuck, e := Ready(r, spans(6, 6, 0, 0, 2, 2), 0); worst != 64 || stuck != 0 || e != api.OK {
		t.Error(worst, stuck, e)
	}
	if worst, stuck, e := Ready(r, spans(5, 5, 0, 0, 2, 2), 0); worst != 64 || stuck != 1 || e != api.OK {
		t.Error(worst, stuck, e)
	}
	if n, e := Ticks(r, []int{1, 0, 0}, spans(5, 5, 0, 0, 2, 2), 0); n != 64 || e != api.OK {
		t.Error(n, e)
	}
	if _, e := Ticks(r, []int{1, 0, 0}, spans(5, 5, 0, 0, 2, 2), 1); e != api.ErrLate {
		t.Error(e)
	}
}
