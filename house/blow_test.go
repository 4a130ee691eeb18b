package house

import (
	"slices"
	"testing"

	"moonpool/api"
)

// short is the blow-out B of the chapter, and long its D.
func short() api.Blow {
	return api.Blow{Lost: []bool{false, false, true}, Moves: [][]int{{1, 2}, {2}, {2}}}
}

func long() api.Blow {
	b := short()
	b.Moves[1] = []int{0}
	return b
}

func TestP10_3CheckBlow(t *testing.T) {
	ring := func(n int) api.Blow {
		b := api.Blow{Lost: make([]bool, n)}
		for i := range n {
			b.Moves = append(b.Moves, []int{(i + 1) % n})
		}
		return b
	}
	with := func(i int, moves ...int) api.Blow {
		b := short()
		b.Moves[i] = moves
		return b
	}
	for i, c := range []struct {
		b api.Blow
		e api.Errno
	}{
		{short(), api.OK}, {long(), api.OK}, {api.Blow{}, api.ErrShort}, {api.Blow{Moves: [][]int{{0}}}, api.ErrShort}, {ring(1), api.OK}, {ring(64), api.OK}, {ring(65), api.ErrFull}, {api.Blow{Lost: make([]bool, 65)}, api.ErrFull}, {api.Blow{Lost: make([]bool, 2), Moves: [][]int{{0}}}, api.ErrForm}, {api.Blow{Lost: make([]bool, 1), Moves: [][]int{{0}, {0}}}, api.ErrForm}, {api.Blow{Lost: make([]bool, 1)}, api.ErrForm},
		{with(1), api.ErrShort}, {with(1, 0, 1, 2, 0), api.OK}, {with(1, 0, 1, 2, 0, 9), api.ErrFull}, {with(1, 3), api.ErrRange}, {with(1, -1), api.ErrRange}, {with(2, 0, 0, 1<<62), api.ErrRange},
		{api.Blow{Lost: make([]bool, 3), Moves: [][]int{{3}, {}, {0, 0, 0, 0, 0}}}, api.ErrRange}, {api.Blow{Lost: make([]bool, 3), Moves: [][]int{{0}, {0, 0, 0, 0, 0}, {}}}, api.ErrFull},
	} {
		if e := CheckBlow(c.b); e != c.e {
			t.Error(i, e, c.e)
		}
		if c.e == api.OK {
			continue
		}
		n, ok := Chance(c.b, []int{0})
		if Safe(c.b) != nil || n != 0 || ok || Way(c.b, 0) != nil {
			t.Error(i, "not valid")
		}
	}
}

func TestP10_3Examples(t *testing.T) {
	if l := Safe(short()); !slices.Equal(l, []bool{false, false, false}) {
		t.Error(l)
	}
	if l := Safe(long()); !slices.Equal(l, []bool{true, true, false}) {
		t.Error(l)
	}
	alone := api.Blow{Lost: []bool{true}, Moves: [][]int{{0}}}
	if l := Safe(alone); !slices.Equal(l, []bool{false}) {
		t.Error(l)
	}
	for i, c := range []struct {
		b    api.Blow
		run  []int
		want int
		ok   bool
	}{
		{long(), []int{1, 0, 2, 2}, 1, true}, {long(), []int{2}, 0, false}, {short(), []int{0}, 0, false}, {long(), nil, 0, false}, {long(), []int{0}, 0, true}, {long(), []int{2, 2, 1}, 2, true}, {long(), []int{0, 3}, 0, false}, {long(), []int{-1, 0}, 0, false}, {long(), make([]int, 400), 399, true}, {long(), make([]int, 401), 0, false},
	} {
		if n, ok := Chance(c.b, c.run); n != c.want || ok != c.ok {
			t.Error(i, n, ok)
		}
	}
	self := api.Blow{Lost: []bool{false, false, false}, Moves: [][]int{{1}, {2}, {2, 0}}}
	for i, c := range []struct {
		b     api.Blow
		state int
		want  []int
	}{
		{long(), 1, []int{1, 0, 1}}, {long(), 0, []int{0, 1, 0}}, {long(), 2, nil}, {long(), 3, nil}, {long(), -1, nil}, {short(), 0, nil}, {self, 0, []int{0, 1, 2, 2}}, {self, 2, []int{2, 2}},
	} {
		if l := Way(c.b, c.state); !slices.Equal(l, c.want) {
			t.Error(i, l)
		}
	}
}

func TestP10_3Wild(t *testing.T) {
	b, e := Wild(4, 1, 1)
	if e != api.OK || len(b.Lost) != 10 || !slices.Equal(b.Moves[0], []int{2, 3}) || !slices.Equal(b.Moves[1], []int{1, 1}) || !slices.Equal(b.Moves[6], []int{8, 9}) || !slices.Equal(b.Moves[8], []int{8, 9}) || b.Lost[7] || !b.Lost[8] || !b.Lost[9] {
		t.Error(b, e)
	}
	safe := Safe(b)
	if !safe[2*2] || safe[3*2] || !safe[3*2+1] {
		t.Error(safe)
	}
	for i, c := range []struct {
		limit, rate, time, states int
		e                         api.Errno
	}{
		{15, 1, 3, 64, api.OK}, {16, 1, 1, 0, api.ErrRange}, {0, 1, 1, 0, api.ErrRange}, {1, 0, 1, 0, api.ErrRange}, {1, 16, 1, 0, api.ErrRange}, {1, 15, 0, 2, api.OK}, {1, 1, -1, 0, api.ErrRange}, {1, 1, 4, 0, api.ErrRange}, {-1 << 63, 1, 1, 0, api.ErrRange},
	} {
		b, e := Wild(c.limit, c.rate, c.time)
		if e != c.e || len(b.Lost) != c.states || len(b.Moves) != c.states || e == api.OK && CheckBlow(b) != api.OK {
			t.Error(i, len(b.Lost), e)
		}
	}
}

func TestP10_12(t *testing.T) {
	for limit := 1; limit <= 15; limit++ {
		for rate := 1; rate <= 15; rate++ {
			for time := range 4 {
				b, _ := Wild(limit, rate, time)
				for n, safe := range Safe(b) {
					gas, closing := n/(time+1), n%(time+1)
					want := gas+(time-closing)*rate < limit
					if closing == time {
						want = gas < limit
					}
					if safe != want || b.Lost[n] != (gas == limit) {
						t.Fatal(limit, rate, time, gas, closing, safe)
					}
				}
			}
		}
	}
}

// TestP10_11 checks random blow-outs: P10.10 and P10.11.
func TestP10_11(t *testing.T) {
	roll := dice(1011)
	ways := 0
	for range 500 {
		n := 1 + int(roll(20))
		b := api.Blow{}
		for range n {
			b.Lost = append(b.Lost, roll(3) == 0)
			var moves []int
			for range 1 + roll(2) {
				moves = append(moves, int(roll(int64(n))))
			}
			b.Moves = append(b.Moves, moves)
		}
		safe := Safe(b)
		// A state is safe if one can go on for as many steps as there are states.
		can := make([]bool, n)
		for s := range n {
			can[s] = !b.Lost[s]
		}
		for range n {
			next := make([]bool, n)
			for s := range n {
				next[s] = !b.Lost[s] && slices.ContainsFunc(b.Moves[s], func(m int) bool { return can[m] })
			}
			can = next
		}
		if !slices.Equal(safe, can) {
			t.Fatal(b, safe, can)
		}
		for s := range n {
			way := Way(b, s)
			if (way != nil) != safe[s] {
				t.Fatal(way, s)
			}
			if way == nil {
				continue
			}
			ways++
			last := len(way) - 1
			if way[0] != s || slices.Index(way, way[last]) == last {
				t.Fatal(way)
			}
			for i := range last {
				first := slices.IndexFunc(b.Moves[way[i]], func(m int) bool { return safe[m] })
				if b.Lost[way[i]] || b.Moves[way[i]][first] != way[i+1] || slices.Index(way, way[i]) != i {
					t.Fatal(way)
				}
			}
		}
		var run []int
		for range roll(30) {
			run = append(run, int(roll(int64(n))))
		}
		at, ok := Chance(b, run)
		if ok && !safe[run[at]] || !ok && at != 0 {
			t.Fatal(at, ok)
		}
		for i := range run {
			if safe[run[i]] && (!ok || i > at) {
				t.Fatal("a later chance", i, at)
			}
		}
	}
	if ways < 100 {
		t.Error(ways)
	}
}
