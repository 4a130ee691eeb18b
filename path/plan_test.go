package path

import (
	"slices"
	"testing"

	"moonpool/api"
)

// aim is the goal of the chapter's example.
func aim() api.Goal {
	into := at(0, 1800, 4400)
	return api.Goal{Dirs: []api.Vec{at(0, 0, 1000), at(0, 600, 800)}, Mult: 8, Legs: 3, Turn: api.Part{N: 1, D: 5}, Into: api.Box{Lo: into, Hi: into}}
}

func TestP1_6CheckGoal(t *testing.T) {
	for i, c := range []struct {
		change func(g *api.Goal)
		e      api.Errno
	}{
		{func(g *api.Goal) {}, api.OK}, {func(g *api.Goal) { g.Dirs, g.Mult = nil, 0 }, api.ErrShort}, {func(g *api.Goal) { g.Dirs = g.Dirs[:1] }, api.ErrShort},
		{func(g *api.Goal) { g.Dirs, g.Mult = make([]api.Vec, 9), 0 }, api.ErrFull},
		{func(g *api.Goal) { g.Dirs = frames()[:8] }, api.OK}, {func(g *api.Goal) { g.Dirs = frames() }, api.ErrFull},
		{func(g *api.Goal) { g.Dirs[1] = at(0, 1, 100) }, api.ErrForm}, {func(g *api.Goal) { g.Dirs[1], g.Mult = at(0, 1<<62, 1<<62), 0 }, api.ErrForm},
		{func(g *api.Goal) { g.Dirs[0] = at(0, 0, 99) }, api.ErrRange}, {func(g *api.Goal) { g.Dirs[0] = at(0, 0, 100) }, api.OK}, {func(g *api.Goal) { g.Dirs[0] = at(0, 0, 4000) }, api.OK}, {func(g *api.Goal) { g.Dirs[0] = at(0, 0, 4001) }, api.ErrRange},
		{func(g *api.Goal) { g.Dirs[1] = g.Dirs[0] }, api.ErrExists}, {func(g *api.Goal) { g.Dirs = []api.Vec{at(0, 0, 99), at(0, 0, 99)} }, api.ErrRange},
		{func(g *api.Goal) { g.Dirs = []api.Vec{at(0, 0, 100), at(0, 0, 100), at(1, 2, 3)} }, api.ErrExists}, {func(g *api.Goal) { g.Dirs = []api.Vec{at(0, 0, 100), at(1, 2, 3), at(0, 0, 100)} }, api.ErrForm},
		{func(g *api.Goal) { g.Mult = 0 }, api.ErrRange}, {func(g *api.Goal) { g.Mult = 9 }, api.ErrRange}, {func(g *api.Goal) { g.Mult = 1 }, api.OK},
		{func(g *api.Goal) { g.Legs = 0 }, api.ErrRange}, {func(g *api.Goal) { g.Legs = 4 }, api.ErrRange}, {func(g *api.Goal) { g.Legs = 1 }, api.OK},
		{func(g *api.Goal) { g.Turn = api.Part{} }, api.ErrRange}, {func(g *api.Goal) { g.Turn = api.Part{N: 2, D: 1} }, api.ErrRange}, {func(g *api.Goal) { g.Turn = api.Part{N: -1, D: 1} }, api.ErrRange},
		{func(g *api.Goal) { g.Turn = api.Part{N: 1000, D: 1000} }, api.OK}, {func(g *api.Goal) { g.Turn = api.Part{N: 0, D: 1001} }, api.ErrRange}, {func(g *api.Goal) { g.Turn = api.Part{N: -2, D: -1} }, api.ErrRange},
		{func(g *api.Goal) { g.Into.Lo.X++ }, api.ErrRange}, {func(g *api.Goal) { g.Into.Lo.Y++ }, api.ErrRange}, {func(g *api.Goal) { g.Into.Lo.Z++ }, api.ErrRange},
		{func(g *api.Goal) { g.Into = api.Box{Lo: at(-1<<63, -1<<63, -1<<63), Hi: at(1<<63-1, 1<<63-1, 1<<63-1)} }, api.OK},
	} {
		g := aim()
		c.change(&g)
		if e := CheckGoal(g); e != c.e {
			t.Error(i, e, c.e)
		}
		if p, e := Plan(at(0, 0, -1), at(0, 0, 0), g); c.e != api.OK && e != c.e || c.e == api.OK && e != api.ErrRange || p.Legs != nil {
			t.Error(i, p, e)
		}
	}
}

func TestP1_6Plan(t *testing.T) {
	flip := func(g *api.Goal) { g.Dirs[0], g.Dirs[1] = g.Dirs[1], g.Dirs[0] }
	for i, c := range []struct {
		change func(g *api.Goal)
		first  api.Vec
		legs   []api.Vec
		e      api.Errno
	}{
		{func(g *api.Goal) {}, at(0, 0, 1), []api.Vec{at(0, 0, 2000), at(0, 1800, 2400)}, api.OK},
		{flip, at(0, 0, 1), []api.Vec{at(0, 1800, 2400), at(0, 0, 2000)}, api.OK}, // as long, and the first one by numbers then
		{func(g *api.Goal) { g.Mult = 2 }, at(0, 0, 1), []api.Vec{at(0, 600, 800), at(0, 0, 2000), at(0, 1200, 1600)}, api.OK},
		{func(g *api.Goal) { g.Mult = 1 }, at(0, 0, 1), nil, api.ErrMissing}, {func(g *api.Goal) { g.Legs = 1 }, at(0, 0, 1), nil, api.ErrMissing},
		{func(g *api.Goal) { g.Turn.N = 0 }, at(0, 0, 1), nil, api.ErrMissing}, {func(g *api.Goal) { g.Turn = api.Part{N: 199, D: 1000} }, at(0, 0, 1), nil, api.ErrMissing},
		{func(g *api.Goal) {}, at(1, 0, 0), nil, api.ErrMissing}, {func(g *api.Goal) { g.Turn = api.Part{N: 1, D: 1} }, at(1, 0, 0), nil, api.ErrMissing},
		{func(g *api.Goal) { g.Turn = api.Part{N: 1, D: 1} }, at(0, 1, 0), []api.Vec{at(0, 1800, 2400), at(0, 0, 2000)}, api.OK}, // upright first would be a right angle
		{func(g *api.Goal) {}, at(1, 1, 0), nil, api.ErrForm}, {func(g *api.Goal) {}, at(0, 0, 0), nil, api.ErrForm}, {func(g *api.Goal) {}, at(0, 0, 1<<17+1), nil, api.ErrForm},
		{func(g *api.Goal) {}, at(0, 0, 1<<17), []api.Vec{at(0, 0, 2000), at(0, 1800, 2400)}, api.OK},
		{func(g *api.Goal) { g.Into = api.Box{Lo: at(0, 0, 0), Hi: at(0, 0, 2000)} }, at(0, 0, 1), []api.Vec{at(0, 0, 1000)}, api.OK}, // at least one leg
		{func(g *api.Goal) { g.Into = api.Box{Lo: at(0, 0, -500), Hi: at(0, 0, 0)} }, at(0, 0, 1), nil, api.ErrMissing},
		{func(g *api.Goal) { // two legs of one direction alone could end there, but for a direction like it
			g.Into = api.Box{Lo: at(0, 0, 9000), Hi: at(0, 0, 9000)}
		}, at(0, 0, 1), nil, api.ErrMissing},
		{func(g *api.Goal) {
			g.Into = api.Box{Lo: at(0, 0, 9000), Hi: at(0, 0, 9000)}
			g.Dirs = append(g.Dirs, at(0, 0, 500))
		}, at(0, 0, 1), []api.Vec{at(0, 0, 5000), at(0, 0, 4000)}, api.OK},
		{func(g *api.Goal) { // the fewest legs of equally long ones
			g.Dirs = []api.Vec{at(0, 0, 1000), at(0, 0, 2000), at(0, 0, 3000)}
			g.Into = api.Box{Lo: at(0, 0, 9000), Hi: at(0, 0, 9000)}
		}, at(0, 0, 1), []api.Vec{at(0, 0, 9000)}, api.OK},
	} {
		g := aim()
		c.change(&g)
		p, e := Plan(at(0, 0, 0), c.first, g)
		if e != c.e || !slices.Equal(p.Legs, c.legs) {
			t.Error(i, p, e)
		}
	}
}

// TestP1_6Border checks that a plan stays in the places, and does not pass beyond them.
func TestP1_6Border(t *testing.T) {
	g := api.Goal{Dirs: []api.Vec{at(0, 400, -300), at(0, 400, 300)}, Mult: 8, Legs: 3, Turn: api.Part{N: 1, D: 1}, Into: api.Box{Lo: at(0, 800, 300), Hi: at(0, 800, 300)}}
	if p, e := Plan(at(0, 0, 300), at(0, 1, 0), g); e != api.OK || !slices.Equal(p.Legs, []api.Vec{at(0, 400, -300), at(0, 400, 300)}) {
		t.Error(p, e)
	}
	g.Into = api.Box{Lo: at(0, 800, 299), Hi: at(0, 800, 299)}
	if p, e := Plan(at(0, 0, 299), at(0, 1, 0), g); e != api.OK || !slices.Equal(p.Legs, []api.Vec{at(0, 400, 300), at(0, 400, -300)}) {
		t.Error(p, e)
	}
	slight := api.Goal{Dirs: []api.Vec{at(0, 0, 1000), at(-72, 1, 144)}, Mult: 1, Legs: 1, Turn: api.Part{N: 1, D: 1}, Into: api.Box{Lo: at(0, 1, 144), Hi: at(0, 1, 144)}}
	if p, e := Plan(at(72, 0, 0), at(22, 145, 10), slight); e != api.OK || len(p.Legs) != 1 { // the product of both is 1
		t.Error(p, e)
	}
	if _, e := Plan(at(0, 0, -1), at(0, 1, 1), g); e != api.ErrRange {
		t.Error(e)
	}
	if _, e := Plan(at(1<<20+1, 0, 0), at(0, 1, 1), g); e != api.ErrRange {
		t.Error(e)
	}
	g.Into.Hi.Z = -1 << 63
	if _, e := Plan(at(0, 0, -1), at(0, 1, 1), g); e != api.ErrRange {
		t.Error(e)
	}
}

// walks hands out all lists of legs for a goal, by their legs' numbers.
func walks(g api.Goal, n int, yield func(dirs []int, legs []api.Vec)) {
	var dirs []int
	var legs []api.Vec
	var add func()
	add = func() {
		if len(legs) == n {
			yield(dirs, legs)
			return
		}
		for i, d := range g.Dirs {
			for m := int64(1); m <= g.Mult; m++ {
				dirs, legs = append(dirs, i), append(legs, api.Vec(vec(d).times(m)))
				add()
				dirs, legs = dirs[:len(dirs)-1], legs[:len(legs)-1]
			}
		}
	}
	add()
}

// meets reports whether legs keep all conditions of a goal.
func meets(from, first api.Vec, g api.Goal, dirs []int, legs []api.Vec) bool {
	p := api.Path{From: from, Legs: legs}
	if Check(p) != api.OK || vec(first).dot(vec(legs[0])) <= 0 {
		return false
	}
	before := first
	for i, l := range legs {
		if x, _ := Turn(before, l); less(g.Turn, x) || i > 0 && dirs[i] == dirs[i-1] {
			return false
		}
		before = l
	}
	return vec(placeOf(p, len(legs))).within(vec(g.Into.Lo), vec(g.Into.Hi))
}

// TestP1_13 compares plans with all paths there are.
func TestP1_13(t *testing.T) {
	roll := dice(13)
	found := 0
	for range 400 {
		g := api.Goal{Mult: 1 + roll(3), Legs: 1 + int(roll(3)), Turn: api.Part{N: 200 + roll(800), D: 1000}}
		l := frames()
		for range 2 + roll(2) {
			if d := l[roll(int64(len(l)))]; !slices.Contains(g.Dirs, d) {
				g.Dirs = append(g.Dirs, d)
			}
		}
		if len(g.Dirs) < 2 {
			continue
		}
		g.Into.Lo = at(roll(1500)-1000, roll(1500)-1000, roll(2000))
		g.Into.Hi = api.Vec(vec(g.Into.Lo).plus(vec{700, 700, 700}))
		from, first := at(0, 0, roll(500)), l[roll(int64(len(l)))]
		var best []api.Vec
		length := int64(1 << 60)
		for n := 1; n <= g.Legs; n++ {
			walks(g, n, func(dirs []int, legs []api.Vec) {
				if meets(from, first, g, dirs, legs) && Length(api.Path{From: from, Legs: legs}) < length {
					best, length = slices.Clone(legs), Length(api.Path{From: from, Legs: legs})
				}
			})
		}
		p, e := Plan(from, first, g)
		if !slices.Equal(p.Legs, best) || (e == api.OK) != (best != nil) || e != api.OK && e != api.ErrMissing {
			t.Fatal(g, p, e, best)
		}
		if e == api.OK {
			found++
			wider := g
			wider.Turn, wider.Into.Hi.Z = api.Part{N: 1, D: 1}, wider.Into.Hi.Z+200
			if q, _ := Plan(from, first, wider); Length(q) > Length(p) {
				t.Fatal("a goal that allows more has a longer plan")
			}
		}
	}
	if found < 40 {
		t.Error("too few plans", found)
	}
}

func TestP1_7Sidetrack(t *testing.T) {
	g := aim()
	g.Into = api.Box{Lo: at(0, 0, 50000), Hi: at(0, 9000, 54000)}
	p := bent()
	q, e := Sidetrack(p, 1, g)
	if e != api.OK || q.From != p.From || !slices.Equal(q.Legs, []api.Vec{at(0, 0, 50000), at(0, 0, 1000)}) {
		t.Error(q, e)
	}
	q.Legs[0].X = 9
	if p.Legs[0].X != 0 {
		t.Error("memory is shared")
	}
	for i, c := range []struct {
		p     api.Path
		joint int
		g     api.Goal
		e     api.Errno
	}{
		{well(at(0, 0, -1)), 9, api.Goal{}, api.ErrRange}, {p, 0, api.Goal{}, api.ErrMissing}, {p, 3, api.Goal{}, api.ErrMissing}, {p, -1, g, api.ErrMissing}, {p, 1 << 62, g, api.ErrMissing},
		{p, 1, api.Goal{}, api.ErrShort}, {p, 2, g, api.ErrMissing},
	} {
		if q, e := Sidetrack(c.p, c.joint, c.g); e != c.e || q.Legs != nil || q.From != (api.Vec{}) {
			t.Error(i, q, e)
		}
	}
	long := well(at(0, 0, 48000), slices.Repeat([]api.Vec{at(0, 0, 100)}, 20)...)
	if q, e := Sidetrack(long, 20, g); e != api.ErrLong || q.Legs != nil {
		t.Error(q, e)
	}
	if q, e := Sidetrack(long, 19, g); e != api.OK || len(q.Legs) != 20 || Check(q) != api.OK {
		t.Error(q, e)
	}
	// The leg before the joint counts as the first vector.
	g.Turn.N = 0
	g.Into = api.Box{Lo: at(0, 30000, 90000), Hi: at(0, 40000, 99000)}
	if q, e := Sidetrack(p, 2, g); e != api.OK || !slices.Equal(q.Legs[2:], []api.Vec{at(0, 600, 800)}) {
		t.Error(q, e)
	}
}
