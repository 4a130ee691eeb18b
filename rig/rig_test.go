package rig

import (
	"slices"
	"testing"

	"moonpool/api"
	"moonpool/pipe"
)

func ban6(a, aLo, aHi, b, bLo, bHi int) api.Ban {
	return api.Ban{A: a, ALo: aLo, AHi: aHi, B: b, BLo: bLo, BHi: bHi}
}

// example is the rig R of the chapter.
func example() api.Rig {
	return api.Rig{Places: []int{3, 3}, Bans: []api.Ban{ban6(0, 1, 1, 1, 1, 2)}}
}

func spans(n ...int) []api.Span {
	var l []api.Span
	for i := 0; i < len(n); i += 2 {
		l = append(l, api.Span{Lo: n[i], Hi: n[i+1]})
	}
	return l
}

// dice returns numbers that look random: the same ones each time.
func dice(seed uint64) func(n int) int {
	return func(n int) int {
		seed = seed*6364136223846793005 + 1442695040888963407
		return int(seed>>33) % n
	}
}

// randomRig has so many machines, with at most so many places.
func randomRig(roll func(int) int, machines, places int) api.Rig {
	var r api.Rig
	for range machines {
		r.Places = append(r.Places, 2+roll(places-1))
	}
	for range roll(6) {
		a := roll(machines - 1)
		b := a + 1 + roll(machines-1-a)
		aLo, bLo := roll(r.Places[a]), roll(r.Places[b])
		r.Bans = append(r.Bans, ban6(a, aLo, aLo+roll(r.Places[a]-aLo), b, bLo, bLo+roll(r.Places[b]-bLo)))
	}
	return r
}

// states are all states of a rig.
func states(r api.Rig) [][]int {
	l := [][]int{nil}
	for _, n := range r.Places {
		var next [][]int
		for _, s := range l {
			for p := range n {
				next = append(next, append(slices.Clone(s), p))
			}
		}
		l = next
	}
	return l
}

// safeState is a safe state of a rig, if a few throws find one.
func safeState(roll func(int) int, r api.Rig) ([]int, bool) {
	for range 50 {
		var s []int
		for _, n := range r.Places {
			s = append(s, roll(n))
		}
		if CheckState(r, s) == api.OK {
			return s, true
		}
	}
	return nil, false
}

func TestP8_1Check(t *testing.T) {
	for i, c := range []struct {
		r api.Rig
		e api.Errno
	}{
		{example(), api.OK}, {api.Rig{}, api.ErrShort}, {api.Rig{Places: []int{1}}, api.ErrShort}, {api.Rig{Places: []int{2, 8, 2, 8}}, api.OK}, {api.Rig{Places: []int{2, 2, 2, 2, 1}}, api.ErrFull},
		{api.Rig{Places: []int{1, 2}, Bans: make([]api.Ban, 25)}, api.ErrRange}, {api.Rig{Places: []int{2, 9}}, api.ErrRange}, {api.Rig{Places: []int{2, -1 << 63}}, api.ErrRange}, {api.Rig{Places: []int{2, 2}, Bans: make([]api.Ban, 25)}, api.ErrFull}, {api.Rig{Places: []int{2, 2}, Bans: slices.Repeat([]api.Ban{ban6(0, 0, 0, 1, 0, 0)}, 24)}, api.OK},
		{with(ban6(0, 0, 0, 0, 0, 0)), api.ErrOrder}, {with(ban6(1, 0, 0, 0, 0, 0)), api.ErrOrder}, {with(ban6(-1, 0, 0, 1, 0, 0)), api.ErrOrder}, {with(ban6(0, 0, 0, 3, 0, 0)), api.ErrOrder}, {with(ban6(0, -1, 0, 3, 0, 0)), api.ErrOrder}, {with(ban6(1, 0, 0, 2, 0, 0)), api.OK},
		{with(ban6(0, -1, 0, 1, 0, 0)), api.ErrRange}, {with(ban6(0, 1, 0, 1, 0, 0)), api.ErrRange}, {with(ban6(0, 0, 3, 1, 0, 0)), api.ErrRange}, {with(ban6(0, 0, 2, 1, 0, 3)), api.OK}, {with(ban6(0, 0, 2, 1, 0, 4)), api.ErrRange}, {with(ban6(0, 0, 2, 1, -1, 3)), api.ErrRange}, {with(ban6(0, 0, 2, 1, 2, 1)), api.ErrRange},
		{with(ban6(0, 0, 9, 1, 0, 0), ban6(1, 0, 0, 1, 0, 0)), api.ErrRange}, {with(ban6(1, 0, 0, 1, 0, 0), ban6(0, 0, 9, 1, 0, 0)), api.ErrOrder},
	} {
		if e := Check(c.r); e != c.e {
			t.Error(i, e, c.e)
		}
		if c.e == api.OK {
			continue
		}
		_, e := Step(c.r, nil, nil, nil)
		_, _, f := Merge(c.r, nil, make([]api.Request, 13))
		_, _, g := Follow(c.r, nil, nil)
		_, h := Ticks(c.r, nil, nil, 9)
		_, k := Next(c.r, nil, nil, 9)
		_, _, l := Ready(c.r, nil, 9)
		ok, n := Allowed(c.r, nil, nil)
		if CheckState(c.r, nil) != c.e || CheckGoal(c.r, nil) != c.e || e != c.e || f != c.e || g != c.e || h != c.e || k != c.e || l != c.e || ok || n != -1 || Moves(c.r, nil) != nil || Banned(c.r, nil) != -1 {
			t.Error(i, "not valid")
		}
	}
}

// with is a rig with three machines and these bans.
func with(l ...api.Ban) api.Rig { return api.Rig{Places: []int{3, 4, 5}, Bans: l} }

func TestP8_1State(t *testing.T) {
	two := example()
	two.Bans = append(two.Bans, ban6(0, 0, 2, 1, 2, 2))
	for i, c := range []struct {
		r   api.Rig
		s   []int
		e   api.Errno
		ban int
	}{
		{example(), []int{1, 2}, api.ErrClash, 0}, {example(), []int{0, 2}, api.OK, -1}, {example(), []int{1, 1}, api.ErrClash, 0}, {example(), []int{1, 0}, api.OK, -1}, {example(), []int{2, 1}, api.OK, -1},
		{two, []int{1, 2}, api.ErrClash, 0}, {two, []int{0, 2}, api.ErrClash, 1}, {two, []int{2, 1}, api.OK, -1},
		{example(), []int{1}, api.ErrForm, -1}, {example(), []int{1, 2, 0}, api.ErrForm, -1}, {example(), nil, api.ErrForm, -1}, {example(), []int{3, 0}, api.ErrRange, -1}, {example(), []int{0, -1}, api.ErrRange, -1}, {example(), []int{1, 9}, api.ErrRange, -1}, {api.Rig{}, []int{1, 2}, api.ErrShort, -1},
	} {
		if e, n := CheckState(c.r, c.s), Banned(c.r, c.s); e != c.e || n != c.ban {
			t.Error(i, e, n)
		}
		_, e := Step(c.r, c.s, nil, nil)
		_, _, f := Merge(c.r, c.s, make([]api.Request, 13))
		_, _, g := Follow(c.r, c.s, nil)
		_, h := Ticks(c.r, c.s, nil, 9)
		_, k := Next(c.r, c.s, nil, 9)
		if c.e != api.OK && (e != c.e || f != c.e || g != c.e || h != c.e || k != c.e || Moves(c.r, c.s) != nil) {
			t.Error(i, e, f, g, h, k)
		}
	}
}

func TestP8_2Allowed(t *testing.T) {
	two := example()
	two.Bans = append([]api.Ban{ban6(0, 2, 2, 1, 2, 2)}, two.Bans...)
	for i, c := range []struct {
		r    api.Rig
		s, m []int
		ok   bool
		ban  int
	}{
		{example(), []int{0, 2}, []int{1, 0}, false, 0}, {example(), []int{0, 1}, []int{1, -1}, false, 0}, {example(), []int{0, 0}, []int{1, 1}, false, 0}, {example(), []int{0, 0}, []int{1, 0}, true, -1}, {example(), []int{0, 2}, []int{0, -1}, true, -1}, {example(), []int{2, 1}, []int{-1, -1}, false, 0}, {example(), []int{2, 0}, []int{-1, 1}, false, 0}, {example(), []int{0, 0}, []int{0, 0}, true, -1},
		{two, []int{1, 0}, []int{1, 1}, false, 1}, {two, []int{2, 1}, []int{0, 1}, false, 0}, {two, []int{2, 1}, []int{-1, 1}, false, 0},
		{example(), []int{1, 2}, []int{0, 0}, false, -1}, {example(), []int{0, 2}, []int{1, 1}, false, -1}, {example(), []int{0, 2}, []int{-1, 0}, false, -1}, {example(), []int{0, 2}, []int{2, 0}, false, -1}, {example(), []int{0, 2}, []int{1}, false, -1}, {example(), []int{0, 2}, []int{1, 0, 0}, false, -1}, {example(), []int{0}, []int{0, 0}, false, -1}, {example(), []int{0, 0}, []int{0, -1 << 63}, false, -1},
	} {
		if ok, n := Allowed(c.r, c.s, c.m); ok != c.ok || n != c.ban {
			t.Error(i, ok, n)
		}
	}
	want := [][]int{{0, 0}, {0, 1}, {1, 0}}
	if l := Moves(example(), []int{0, 0}); !slices.EqualFunc(l, want, slices.Equal) {
		t.Error(l)
	}
	want = [][]int{{-1, 0}, {0, 0}, {1, 0}}
	if l := Moves(example(), []int{1, 0}); !slices.EqualFunc(l, want, slices.Equal) {
		t.Error(l)
	}
	l := Moves(api.Rig{Places: []int{3, 3, 3, 3}}, []int{1, 1, 1, 1})
	if len(l) != 81 || !slices.IsSortedFunc(l, slices.Compare) || !slices.Equal(l[0], []int{-1, -1, -1, -1}) || !slices.Equal(l[80], []int{1, 1, 1, 1}) {
		t.Error(len(l))
	}
	l[0][0] = 7
	if l[1][0] != -1 {
		t.Error("memory is shared")
	}
}

func TestP8_3Step(t *testing.T) {
	s := []int{0, 0}
	for i, c := range []struct {
		m, lost, want []int
		e             api.Errno
	}{
		{[]int{1, 0}, []int{0}, []int{0, 0}, api.OK}, {[]int{1, 0}, nil, []int{1, 0}, api.OK}, {[]int{1, 0}, []int{1, 1, 1}, []int{1, 0}, api.OK}, {[]int{1, 0}, []int{0, 1, 0}, []int{0, 0}, api.OK}, {[]int{0, 1}, []int{0}, []int{0, 1}, api.OK},
		{[]int{1}, []int{9}, nil, api.ErrForm}, {[]int{2, 0}, []int{9}, nil, api.ErrForm}, {nil, nil, nil, api.ErrForm}, {[]int{1, 1}, []int{9}, nil, api.ErrClash}, {[]int{-1, 0}, nil, nil, api.ErrClash}, {[]int{1, 0}, []int{2}, nil, api.ErrMissing}, {[]int{1, 0}, []int{0, -1}, nil, api.ErrMissing},
	} {
		if x, e := Step(example(), s, c.m, c.lost); !slices.Equal(x, c.want) || e != c.e {
			t.Error(i, x, e)
		}
	}
	if !slices.Equal(s, []int{0, 0}) {
		t.Error("the state is changed")
	}
}

func TestP8_3Follow(t *testing.T) {
	s := []int{0, 2}
	way := [][]int{{0, -1}, {0, -1}, {1, 0}, {1, 0}}
	for i, c := range []struct {
		plan [][]int
		n    int
		want []int
	}{
		{way, -1, []int{2, 0}}, {nil, -1, []int{0, 2}}, {way[:3], -1, []int{1, 0}}, {[][]int{{1, 0}}, 0, []int{0, 2}}, {append(slices.Clone(way), []int{1, 0}), 4, []int{2, 0}}, {[][]int{{0, -1}, {0}, {0, 0}}, 1, []int{0, 1}}, {[][]int{{0, -1}, {0, 5}}, 1, []int{0, 1}}, {[][]int{nil}, 0, []int{0, 2}},
	} {
		if n, x, e := Follow(example(), s, c.plan); n != c.n || !slices.Equal(x, c.want) || e != api.OK {
			t.Error(i, n, x, e)
		}
	}
	_, x, _ := Follow(example(), s, nil)
	x[0] = 9
	if !slices.Equal(s, []int{0, 2}) {
		t.Error("memory is shared")
	}
}

func TestP8_4Merge(t *testing.T) {
	ask := func(n ...int) []api.Request {
		var l []api.Request
		for i := 0; i < len(n); i += 3 {
			l = append(l, api.Request{Machine: n[i], Move: n[i+1], Rank: n[i+2]})
		}
		return l
	}
	for i, c := range []struct {
		s           []int
		l           []api.Request
		move, taken []int
		e           api.Errno
	}{
		{[]int{0, 0}, ask(1, 1, 5, 0, 1, 3), []int{1, 0}, []int{1}, api.OK}, {[]int{0, 0}, ask(1, 1, 3, 0, 1, 5), []int{0, 1}, []int{0}, api.OK}, {[]int{0, 0}, ask(1, 1, 5, 0, 1, 5), []int{0, 1}, []int{0}, api.OK}, {[]int{0, 0}, nil, []int{0, 0}, nil, api.OK},
		{[]int{0, 0}, ask(0, 0, 5, 0, 1, 9, 1, 1, 99), []int{0, 1}, []int{0, 2}, api.OK}, {[]int{0, 0}, ask(1, 1, 9, 0, 0, 3), []int{0, 1}, []int{0, 1}, api.OK}, {[]int{0, 2}, ask(1, 1, 0, 1, -1, 1, 0, 1, 2, 0, -1, 3), []int{0, -1}, []int{1}, api.OK},
		{[]int{0, 0}, ask(slices.Repeat([]int{2, 0, 0}, 13)...), nil, nil, api.ErrFull}, {[]int{0, 0}, ask(slices.Repeat([]int{0, 1, 0}, 12)...), []int{1, 0}, []int{0}, api.OK},
		{[]int{0, 0}, ask(2, 5, 0), nil, nil, api.ErrMissing}, {[]int{0, 0}, ask(-1, 0, 0), nil, nil, api.ErrMissing}, {[]int{0, 0}, ask(0, 2, 0, 5, 0, 0), nil, nil, api.ErrRange}, {[]int{0, 0}, ask(0, -2, 0), nil, nil, api.ErrRange}, {[]int{0, 0}, ask(0, 0, -1), nil, nil, api.ErrRange}, {[]int{0, 0}, ask(0, 0, 100), nil, nil, api.ErrRange}, {[]int{0, 0}, ask(0, 0, 99, 7, 7, 7), nil, nil, api.ErrMissing},
	} {
		if m, taken, e := Merge(example(), c.s, c.l); !slices.Equal(m, c.move) || !slices.Equal(taken, c.taken) || e != c.e {
			t.Error(i, m, taken, e)
		}
	}
}

func TestP8_12(t *testing.T) {
	roll := dice(812)
	for range 500 {
		r := randomRig(roll, 2+roll(3), 5)
		s, ok := safeState(roll, r)
		if !ok {
			continue
		}
		var l []api.Request
		for range roll(13) {
			l = append(l, api.Request{Machine: roll(len(s)), Move: roll(3) - 1, Rank: roll(5)})
		}
		m, taken, e := Merge(r, s, l)
		if e != api.OK {
			t.Fatal(e)
		}
		if ok, _ := Allowed(r, s, m); !ok {
			t.Fatal("what is taken is not allowed")
		}
		has := make([]bool, len(s))
		first := -1
		for i, q := range l {
			if slices.Contains(taken, i) {
				if has[q.Machine] || m[q.Machine] != q.Move {
					t.Fatal(m, taken)
				}
				has[q.Machine] = true
			}
			if first < 0 || q.Rank < l[first].Rank {
				first = i
			}
		}
		for i, q := range l {
			more := slices.Clone(m)
			more[q.Machine] = q.Move
			if ok, _ := Allowed(r, s, more); !slices.Contains(taken, i) && !has[q.Machine] && ok {
				t.Fatal("a request that is refused could be added")
			}
			alone := make([]int, len(s))
			alone[q.Machine] = q.Move
			if ok, _ := Allowed(r, s, alone); i == first && ok != slices.Contains(taken, i) {
				t.Fatal("the first request")
			}
		}
	}
}

// TestP8_8 checks all moves of random rigs: P8.8 and P8.9.
func TestP8_8(t *testing.T) {
	roll := dice(88)
	for range 200 {
		r := randomRig(roll, 2+roll(3), 4)
		s, ok := safeState(roll, r)
		if !ok {
			continue
		}
		for _, m := range Moves(r, s) {
			to, _ := Step(r, s, m, nil)
			back := make([]int, len(m))
			for i := range m {
				back[i] = -m[i]
			}
			if ok, _ := Allowed(r, to, back); !ok {
				t.Fatal("backwards", s, m)
			}
			for lost := range 1 << len(s) {
				var l []int
				fewer := slices.Clone(m)
				for i := range s {
					if lost>>i&1 == 1 {
						l = append(l, i)
						fewer[i] = 0
					}
				}
				x, e := Step(r, s, m, l)
				if e != api.OK || CheckState(r, x) != api.OK {
					t.Fatal("not safe", s, m, l)
				}
				if ok, _ := Allowed(r, s, fewer); !ok {
					t.Fatal("fewer machines", s, m, fewer)
				}
			}
		}
		if ok, _ := Allowed(r, s, make([]int, len(s))); !ok {
			t.Fatal("to stay is not allowed")
		}
	}
}

func TestP8_7Shear(t *testing.T) {
	tube := api.Tube{Count: 4, Len: 1000, Air: 1, Steel: 1, Out: 9, Yield: 1, Twist: 1}
	s := api.String{Tubes: []api.Tube{tube}}
	good := api.Ram{Faces: 2000, Step: 100, Near: 20}
	one := api.Span{Lo: 1, Hi: 1}
	for i, c := range []struct {
		x                  api.Ram
		s                  api.String
		hoist, places, ram int
		closed             api.Span
		want               []api.Ban
		e                  api.Errno
	}{
		{good, s, 0, 8, 1, one, []api.Ban{ban6(0, 0, 0, 1, 1, 1)}, api.OK}, {good, s, 2, 8, 1, one, []api.Ban{ban6(1, 1, 1, 2, 0, 0)}, api.OK},
		{api.Ram{Faces: 2100, Step: 100, Near: 100}, s, 0, 8, 3, api.Span{Lo: 0, Hi: 7}, []api.Ban{ban6(0, 0, 2, 3, 0, 7)}, api.OK}, {api.Ram{Faces: 2100, Step: 250, Near: 100}, s, 0, 8, 3, one, []api.Ban{ban6(0, 0, 0, 3, 1, 1), ban6(0, 4, 4, 3, 1, 1)}, api.OK},
		{api.Ram{Faces: 4000, Step: 1000}, s, 0, 8, 3, one, []api.Ban{ban6(0, 0, 4, 3, 1, 1)}, api.OK}, {api.Ram{Faces: 7000, Step: 1000}, s, 0, 8, 3, one, []api.Ban{ban6(0, 3, 7, 3, 1, 1)}, api.OK}, {api.Ram{Faces: 50, Step: 100, Near: 50}, s, 0, 8, 3, one, []api.Ban{ban6(0, 0, 1, 3, 1, 1)}, api.OK}, {api.Ram{Faces: 50, Step: 100, Near: 49}, s, 0, 8, 3, one, nil, api.OK}, // lifted above the ram
		{api.Ram{Faces: 1 << 20, Step: 4000, Near: 100}, s, 3, 2, 0, api.Span{Lo: 7, Hi: 7}, nil, api.OK}, {api.Ram{Faces: 0, Step: 1, Near: 0}, s, 3, 2, 0, one, []api.Ban{ban6(0, 1, 1, 3, 0, 0)}, api.OK},
		{api.Ram{}, api.String{}, 0, 0, 0, one, nil, api.ErrShort}, {api.Ram{Faces: -1, Step: 1}, s, 0, 0, 0, one, nil, api.ErrRange}, {api.Ram{Faces: 1<<20 + 1, Step: 1}, s, 0, 8, 1, one, nil, api.ErrRange}, {api.Ram{Step: 0}, s, 0, 8, 1, one, nil, api.ErrRange}, {api.Ram{Step: 4001}, s, 0, 8, 1, one, nil, api.ErrRange}, {api.Ram{Step: 1, Near: -1}, s, 0, 8, 1, one, nil, api.ErrRange}, {api.Ram{Step: 1, Near: 101}, s, 0, 8, 1, one, nil, api.ErrRange},
		{good, s, 1, 1, 1, one, nil, api.ErrOrder}, {good, s, 4, 8, 1, one, nil, api.ErrOrder}, {good, s, -1, 8, 1, one, nil, api.ErrOrder}, {good, s, 0, 8, 4, one, nil, api.ErrOrder}, {good, s, 0, 8, -1, one, nil, api.ErrOrder}, {good, s, 1 << 62, 8, 1, one, nil, api.ErrOrder},
		{good, s, 0, 1, 1, one, nil, api.ErrRange}, {good, s, 0, 9, 1, one, nil, api.ErrRange}, {good, s, 0, 8, 1, api.Span{Lo: -1, Hi: 1}, nil, api.ErrRange}, {good, s, 0, 8, 1, api.Span{Lo: 2, Hi: 1}, nil, api.ErrRange}, {good, s, 0, 8, 1, api.Span{Lo: 2, Hi: 8}, nil, api.ErrRange},
	} {
		if l, e := Shear(c.x, c.s, c.hoist, c.places, c.ram, c.closed); !slices.Equal(l, c.want) || e != c.e {
			t.Error(i, l, e)
		}
	}
}

// TestP8_13 checks that no joint is near a ram that is closed, in all safe states.
func TestP8_13(t *testing.T) {
	roll := dice(813)
	banned := 0
	for range 200 {
		s := api.String{Tubes: []api.Tube{{Count: int64(1 + roll(4)), Len: int64(100 + roll(200)), Air: 1, Steel: 1, Out: 9, Yield: 1, Twist: 1}}}
		x := api.Ram{Faces: int64(roll(1000)), Step: int64(1 + roll(150)), Near: int64(roll(60))}
		hoist := roll(2)
		r := api.Rig{Places: []int{8, 8}}
		closed := api.Span{Lo: 3 + roll(3), Hi: 6 + roll(2)}
		bans, e := Shear(x, s, hoist, 8, 1-hoist, closed)
		if e != api.OK {
			t.Fatal(e)
		}
		r.Bans = bans
		for _, state := range states(r) {
			at := x.Faces - int64(state[hoist])*x.Step
			isClosed := closed.Lo <= state[1-hoist] && state[1-hoist] <= closed.Hi
			bad := isClosed && pipe.Near(s, at-x.Near, at+x.Near)
			if (CheckState(r, state) == api.ErrClash) != bad {
				t.Fatal(x, s, state, bans)
			}
			if bad {
				banned++
			}
		}
	}
	if banned < 100 {
		t.Error(banned)
	}
}
