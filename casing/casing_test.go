package casing

import (
	"math/big"
	"slices"
	"testing"

	"moonpool/api"
	"moonpool/earth"
)

// line makes a line of pairs of At and V.
func line(n ...int64) api.Line {
	var l api.Line
	for i := 0; i < len(n); i += 2 {
		l.Knots = append(l.Knots, api.Knot{At: n[i], V: n[i+1]})
	}
	return l
}

// example is the job J of the chapter.
func example() api.Job {
	return api.Job{
		Ends:  []int64{100000, 200000},
		Loads: []api.Stress{{In: line(0, 500000000, 200000, 2500000000), Out: line(0, 0, 200000, 2000000000)}},
		Grades: []api.Grade{
			{Burst: 600000000, Collapse: 300000000, Pull: 100000000, Weight: 300, Cost: 5},
			{Burst: 400000000, Collapse: 200000000, Pull: 30000000, Weight: 200, Cost: 3},
		},
		Factor: 1000,
	}
}

// dice returns numbers that look random: the same ones each time.
func dice(seed uint64) func(n int64) int64 {
	return func(n int64) int64 {
		seed = seed*6364136223846793005 + 1442695040888963407
		return int64(seed>>33) % n
	}
}

func TestP5_1Check(t *testing.T) {
	for i, c := range []struct {
		change func(j *api.Job)
		e      api.Errno
	}{
		{func(j *api.Job) {}, api.OK}, {func(j *api.Job) { j.Ends, j.Loads = nil, make([]api.Stress, 9) }, api.ErrShort}, {func(j *api.Job) { j.Ends = []int64{1, 2, 3, 4, 5} }, api.OK}, {func(j *api.Job) { j.Ends = []int64{0, 0, 0, 0, 0, 0} }, api.ErrFull},
		{func(j *api.Job) { j.Ends = []int64{0} }, api.ErrRange}, {func(j *api.Job) { j.Ends = []int64{1 << 20} }, api.OK}, {func(j *api.Job) { j.Ends = []int64{1<<20 + 1} }, api.ErrRange}, {func(j *api.Job) { j.Ends = []int64{5, 5} }, api.ErrOrder}, {func(j *api.Job) { j.Ends = []int64{5, 4} }, api.ErrOrder}, {func(j *api.Job) { j.Ends = []int64{5, 4, 0} }, api.ErrRange},
		{func(j *api.Job) { j.Loads = make([]api.Stress, 7) }, api.ErrFull}, {func(j *api.Job) { j.Loads = slices.Repeat(j.Loads, 6) }, api.OK}, {func(j *api.Job) { j.Loads = nil }, api.OK},
		{func(j *api.Job) { j.Loads[0].In, j.Loads[0].Out = line(), line(5, 5, 5, 5) }, api.ErrShort}, {func(j *api.Job) { j.Loads[0].Out = line(5, 5, 5, 5) }, api.ErrOrder}, {func(j *api.Job) { j.Loads[0].In = line(1<<20+1, 5) }, api.ErrRange}, {func(j *api.Job) { j.Loads[0].Out = line(0, 1<<36+1) }, api.ErrRange},
		{func(j *api.Job) { j.Loads = append(j.Loads, api.Stress{}); j.Grades = nil }, api.ErrShort}, {func(j *api.Job) {
			j.Loads = append(j.Loads, api.Stress{In: line(3, 3, 3, 3)})
			j.Grades = make([]api.Grade, 7)
		}, api.ErrOrder},
		{func(j *api.Job) { j.Grades, j.Factor = nil, 0 }, api.ErrShort}, {func(j *api.Job) { j.Grades = make([]api.Grade, 7) }, api.ErrFull}, {func(j *api.Job) { j.Grades = slices.Repeat(j.Grades, 3) }, api.OK},
		{func(j *api.Job) { j.Grades[1].Burst = -1 }, api.ErrRange}, {func(j *api.Job) { j.Grades[1].Burst = 1<<36 + 1 }, api.ErrRange}, {func(j *api.Job) { j.Grades[1].Burst = 1 << 36 }, api.OK}, {func(j *api.Job) { j.Grades[1].Burst = 0 }, api.OK},
		{func(j *api.Job) { j.Grades[1].Collapse = -1 }, api.ErrRange}, {func(j *api.Job) { j.Grades[1].Collapse = 1<<36 + 1 }, api.ErrRange}, {func(j *api.Job) { j.Grades[1].Pull = 0 }, api.ErrRange}, {func(j *api.Job) { j.Grades[1].Pull = 1 << 40 }, api.OK}, {func(j *api.Job) { j.Grades[1].Pull = 1<<40 + 1 }, api.ErrRange},
		{func(j *api.Job) { j.Grades[0].Weight = -1 }, api.ErrRange}, {func(j *api.Job) { j.Grades[0].Weight = 1 << 20 }, api.OK}, {func(j *api.Job) { j.Grades[0].Weight = 1<<20 + 1 }, api.ErrRange}, {func(j *api.Job) { j.Grades[0].Cost = -1 }, api.ErrRange}, {func(j *api.Job) { j.Grades[0].Cost = 1<<20 + 1 }, api.ErrRange},
		{func(j *api.Job) { j.Factor = 999 }, api.ErrRange}, {func(j *api.Job) { j.Factor = 3001 }, api.ErrRange}, {func(j *api.Job) { j.Factor = 3000 }, api.OK}, {func(j *api.Job) { j.Over = -1 }, api.ErrRange}, {func(j *api.Job) { j.Over = 1 << 40 }, api.OK}, {func(j *api.Job) { j.Over = 1<<40 + 1 }, api.ErrRange},
	} {
		j := example()
		c.change(&j)
		if e := Check(j); e != c.e {
			t.Error(i, e, c.e)
		}
		choice := make([]int, len(j.Ends))
		section, why, e := Bears(j, choice)
		if e != c.e {
			t.Error(i, e)
		}
		if l, ok := Choose(j); c.e != api.OK && (Pulls(j, choice) != nil || Cost(j, choice) != 0 || section != 0 || why != 0 || l != nil || ok) {
			t.Error(i, "not valid")
		}
	}
}

func TestP5_1Loads(t *testing.T) {
	l := example().Loads[0]
	bumpy := api.Stress{In: line(0, 0, 10, 1000, 20, 0), Out: line(5, 100, 15, 700)}
	thirds := api.Stress{In: line(0, 0, 3, 10), Out: line(0, 0, 3, 5)}
	for i, c := range []struct {
		l               api.Stress
		from, to        int64
		inside, outside int64
	}{
		{l, 0, 100000, 500000000, -500000000}, {l, 50000, 50000, 500000000, -500000000}, {bumpy, 0, 1 << 20, 600, 700}, {bumpy, 0, 5, 400, 100}, {bumpy, 6, 9, 560, -440}, {bumpy, 12, 20, 280, 700}, {bumpy, 12, 14, 280, 40}, {bumpy, 30, 40, -700, 700},
		{thirds, 1, 1, 3, -1}, {thirds, 1, 2, 4, -1}, {thirds, 0, 0, 0, 0},
		{l, 5, 4, 0, 0}, {l, -1, 4, 0, 0}, {l, 0, 1<<20 + 1, 0, 0}, {l, 1 << 20, 1 << 20, 500000000, -500000000}, {api.Stress{In: line(0, 9)}, 0, 5, 0, 0}, {api.Stress{Out: line(0, 9)}, 0, 5, 0, 0}, {api.Stress{In: line(0, 9), Out: line(1<<20+1, 9)}, 0, 5, 0, 0},
	} {
		if a, b := Inside(c.l, c.from, c.to), Outside(c.l, c.from, c.to); a != c.inside || b != c.outside {
			t.Error(i, a, b)
		}
		if a, b := Inside(api.Stress{In: c.l.Out, Out: c.l.In}, c.from, c.to), Outside(api.Stress{In: c.l.Out, Out: c.l.In}, c.from, c.to); a != c.outside || b != c.inside {
			t.Error(i, a, b) // P5.9
		}
	}
	for i, c := range []struct{ q, factor, want int64 }{
		{500000000, 1100, 550000000}, {-5, 1100, 0}, {1, 1001, 2}, {0, 3000, 0}, {1 << 36, 3000, 3 << 36}, {1<<36 + 1, 1000, 0}, {-1 << 36, 1000, 0}, {-1<<36 - 1, 1000, 0}, {7, 999, 0}, {7, 3001, 0}, {7, 1000, 7}, {-1 << 63, 1 << 62, 0},
	} {
		if n := Needed(c.q, c.factor); n != c.want {
			t.Error(i, n)
		}
	}
}

// TestP5_9 compares loads of a part with exact ones at all its depths.
func TestP5_9(t *testing.T) {
	roll := dice(59)
	random := func() api.Line {
		var l api.Line
		for at := roll(9); at < 40; at += 1 + roll(15) {
			l.Knots = append(l.Knots, api.Knot{At: at, V: roll(50)})
		}
		return l
	}
	for range 200 {
		l := api.Stress{In: random(), Out: random()}
		from := roll(30)
		to := from + roll(15)
		most := int64(-100)
		for z := from; z <= to; z++ {
			most = max(most, earth.At(l.In, z).Hi-earth.At(l.Out, z).Lo)
			if exact := earth.At(l.In, z).Lo - earth.At(l.Out, z).Hi; exact > Inside(l, from, to) {
				t.Fatal("more than the load", z)
			}
		}
		if n := Inside(l, from, to); n > most || n < most-1 {
			t.Fatal(n, most)
		}
		if Inside(l, max(0, from-5), to+5) < Inside(l, from, to)-1 {
			t.Fatal("a greater part has a lesser load")
		}
	}
}

func TestP5_2Choice(t *testing.T) {
	j := example()
	for i, c := range []struct {
		choice []int
		pulls  []int64
		cost   int64
	}{
		{[]int{0, 0}, []int64{60000000, 30000000}, 1000000}, {[]int{1, 0}, []int64{50000000, 30000000}, 800000}, {[]int{0, 1}, []int64{50000000, 20000000}, 800000}, {[]int{0}, nil, 0}, {[]int{0, 0, 0}, nil, 0}, {[]int{0, 2}, nil, 0}, {[]int{-1, 0}, nil, 0}, {nil, nil, 0},
	} {
		if l, n := Pulls(j, c.choice), Cost(j, c.choice); !slices.Equal(l, c.pulls) || n != c.cost {
			t.Error(i, l, n)
		}
		if s, why, e := Bears(j, c.choice); (e == api.ErrRange) != (c.pulls == nil) || e != api.OK && (s != 0 || why != 0) {
			t.Error(i, s, why, e)
		}
	}
	j.Over = 7
	if l := Pulls(j, []int{1, 0}); !slices.Equal(l, []int64{50000007, 30000007}) {
		t.Error(l)
	}
}

func TestP5_2Bears(t *testing.T) {
	for i, c := range []struct {
		change       func(j *api.Job)
		choice       []int
		section, why int
	}{
		{func(j *api.Job) {}, []int{0, 0}, -1, 0}, {func(j *api.Job) {}, []int{1, 0}, 0, api.WhyBurst}, {func(j *api.Job) {}, []int{0, 1}, 1, api.WhyBurst}, {func(j *api.Job) {}, []int{1, 1}, 0, api.WhyBurst},
		{func(j *api.Job) { j.Grades[0].Burst = 500000000 }, []int{0, 0}, -1, 0}, {func(j *api.Job) { j.Grades[0].Burst = 499999999 }, []int{0, 0}, 0, api.WhyBurst}, {func(j *api.Job) { j.Factor = 1200 }, []int{0, 0}, -1, 0}, {func(j *api.Job) { j.Factor = 1201 }, []int{0, 0}, 0, api.WhyBurst},
		{func(j *api.Job) { j.Grades[0].Pull = 60000000 }, []int{0, 0}, -1, 0}, {func(j *api.Job) { j.Grades[0].Pull = 59999999 }, []int{0, 0}, 0, api.WhyPull}, {func(j *api.Job) { j.Over = 40000000 }, []int{0, 0}, -1, 0}, {func(j *api.Job) { j.Over = 40000001 }, []int{0, 0}, 0, api.WhyPull},
		{func(j *api.Job) { j.Grades[0].Pull, j.Grades[0].Burst = 1, 1 }, []int{0, 0}, 0, api.WhyBurst},
		// From outside: the first section is pulled by 60 of 100, so it bears 400 thousandths of its Collapse.
		{outside(120000000), []int{0, 0}, -1, 0}, {outside(120000001), []int{0, 0}, 0, api.WhyCollapse},
		{func(j *api.Job) { outside(120000001)(j); j.Grades[0].Collapse = 300000002 }, []int{0, 0}, 0, api.WhyCollapse}, {func(j *api.Job) { outside(120000001)(j); j.Grades[0].Collapse = 300000003 }, []int{0, 0}, -1, 0},
		{func(j *api.Job) { outside(120000000)(j); j.Over = 1 }, []int{0, 0}, 0, api.WhyCollapse}, {func(j *api.Job) { outside(119700000)(j); j.Over = 1 }, []int{0, 0}, -1, 0}, {func(j *api.Job) { outside(119700001)(j); j.Over = 1 }, []int{0, 0}, 0, api.WhyCollapse},
		{func(j *api.Job) { outside(0)(j); j.Over = 40000000 }, []int{0, 0}, -1, 0}, {func(j *api.Job) { j.Loads = nil }, []int{0, 0}, -1, 0},
		// The second load alone is too much, in the lower section.
		{func(j *api.Job) {
			j.Loads = append(j.Loads, api.Stress{In: line(0, 0, 150000, 0, 200000, 600000001), Out: line(0, 0)})
		}, []int{0, 0}, 1, api.WhyBurst},
	} {
		j := example()
		c.change(&j)
		if s, why, e := Bears(j, c.choice); s != c.section || why != c.why || e != api.OK {
			t.Error(i, s, why, e)
		}
	}
}

// outside makes a load of a pressure from outside.
func outside(p int64) func(j *api.Job) {
	return func(j *api.Job) { j.Loads = []api.Stress{{In: line(0, 0), Out: line(0, p)}} }
}

func TestP5_3Choose(t *testing.T) {
	for i, c := range []struct {
		change func(j *api.Job)
		want   []int
	}{
		{func(j *api.Job) {}, []int{0, 0}}, {func(j *api.Job) { j.Grades[1].Burst = 500000000 }, []int{0, 1}}, {func(j *api.Job) { j.Grades[1].Burst, j.Grades[1].Pull = 500000000, 50000000 }, []int{1, 1}},
		{func(j *api.Job) { j.Grades[0].Burst = 1 }, nil}, {func(j *api.Job) { j.Grades[1] = j.Grades[0] }, []int{0, 0}}, // the first one of equal ones
		{func(j *api.Job) { j.Grades[1].Burst, j.Grades[1].Pull, j.Grades[1].Cost = 500000000, 50000000, 6 }, []int{0, 0}},
		{func(j *api.Job) {
			j.Grades[1].Burst, j.Grades[1].Pull, j.Grades[1].Cost, j.Grades[0].Pull = 500000000, 50000000, 5, 59999999
		}, []int{0, 1}}, // as dear as 1 0 and 1 1, and before them
	} {
		j := example()
		c.change(&j)
		if l, ok := Choose(j); !slices.Equal(l, c.want) || ok != (c.want != nil) {
			t.Error(i, l, ok)
		}
	}
}

// randomJob is one with small numbers.
func randomJob(roll func(int64) int64) api.Job {
	j := api.Job{Factor: 1000 + roll(500), Over: roll(2000)}
	end := int64(0)
	for range 1 + roll(3) {
		end += 1 + roll(30)
		j.Ends = append(j.Ends, end)
	}
	for range roll(3) {
		j.Loads = append(j.Loads, api.Stress{In: line(0, roll(300), 40, roll(900)), Out: line(5, roll(300), 30, roll(900))})
	}
	for range 1 + roll(4) {
		j.Grades = append(j.Grades, api.Grade{Burst: roll(1200), Collapse: roll(1800), Pull: 1000 + roll(9000), Weight: roll(50), Cost: roll(9)})
	}
	return j
}

// TestP5_6 compares the best choice with all choices, and checks P5.5 to P5.8.
func TestP5_6(t *testing.T) {
	roll := dice(56)
	found := 0
	for range 600 {
		j := randomJob(roll)
		choice := make([]int, len(j.Ends))
		var bestOne []int
		for {
			section, why, e := Bears(j, choice)
			if e != api.OK || (section == -1) != (why == 0) {
				t.Fatal(section, why, e)
			}
			if section == -1 && (bestOne == nil || Cost(j, choice) < Cost(j, bestOne)) {
				bestOne = slices.Clone(choice)
			}
			i := len(choice) - 1
			for ; i >= 0 && choice[i] == len(j.Grades)-1; i-- {
				choice[i] = 0
			}
			if i < 0 {
				break
			}
			choice[i]++
		}
		got, ok := Choose(j)
		if !slices.Equal(got, bestOne) || ok != (bestOne != nil) {
			t.Fatal(got, bestOne)
		}
		if !ok {
			continue
		}
		found++
		pulls := Pulls(j, got)
		from := int64(0)
		for i, to := range j.Ends {
			g := j.Grades[got[i]]
			if pulls[i] > g.Pull || i > 0 && pulls[i] > pulls[i-1] || pulls[len(pulls)-1] < j.Over {
				t.Fatal("P5.8")
			}
			for _, l := range j.Loads {
				for z := from; z <= to; z++ {
					if exact(l.In, z, l.Out).Cmp(big.NewRat(g.Burst, 1)) > 0 || exact(l.Out, z, l.In).Cmp(big.NewRat(g.Collapse, 1)) > 0 {
						t.Fatal("P5.5", z)
					}
				}
			}
			from = to
		}
		for _, change := range []func(j *api.Job){
			func(j *api.Job) { j.Factor += 100 }, func(j *api.Job) { j.Over += 500 }, func(j *api.Job) {
				j.Loads = append(j.Loads, api.Stress{In: line(0, roll(900)), Out: line(0, roll(900))})
			},
		} {
			k := Copy(j)
			change(&k)
			if worse, ok := Choose(k); ok && Cost(k, worse) < Cost(j, got) {
				t.Fatal("P5.7")
			}
		}
		k := Copy(j)
		k.Grades = append(k.Grades, randomJob(roll).Grades[0])
		if more, ok := Choose(k); !ok || Cost(k, more) > Cost(j, got) {
			t.Fatal("P5.7, a grade more")
		}
	}
	if found < 100 {
		t.Error("too few jobs can be done", found)
	}
}

// exact is the value of a less that of b at z.
func exact(a api.Line, z int64, b api.Line) *big.Rat {
	value := func(l api.Line) *big.Rat {
		k := l.Knots
		if z <= k[0].At || len(k) == 1 {
			return big.NewRat(k[0].V, 1)
		}
		if z >= k[1].At {
			return big.NewRat(k[1].V, 1)
		}
		r := big.NewRat((k[1].V-k[0].V)*(z-k[0].At), k[1].At-k[0].At)
		return r.Add(r, big.NewRat(k[0].V, 1))
	}
	return new(big.Rat).Sub(value(a), value(b))
}

func TestP5_4Cement(t *testing.T) {
	h := api.Hole{Segs: []api.Seg{{Long: 1000, Rise: 800, Area: 300, Gap: 50}, {Long: 2000, Rise: 2000, Area: 400, Gap: 60}}}
	for i, c := range []struct {
		h      api.Hole
		volume int64
		lo, hi int64
		e      api.Errno
	}{
		{h, 700000, 1800, 1800, api.OK}, {h, 0, 0, 0, api.OK}, {h, 1100000, 2800, 2800, api.OK}, {h, 1, 0, 1, api.OK}, {h, 700001, 1800, 1801, api.OK}, {h, 1100001, 0, 0, api.ErrRange}, {h, -1, 0, 0, api.ErrRange}, {h, -1 << 63, 0, 0, api.ErrRange},
		{api.Hole{}, -1, 0, 0, api.ErrShort}, {api.Hole{Segs: make([]api.Seg, 17)}, 0, 0, 0, api.ErrFull},
	} {
		if r, e := Cement(c.h, c.volume); r != (api.Range{Lo: c.lo, Hi: c.hi}) || e != c.e {
			t.Error(i, r, e)
		}
	}
	before := api.Range{}
	for v := int64(0); v <= 1100000; v += 997 {
		r, _ := Cement(h, v)
		if r.Lo < before.Lo || r.Hi < before.Hi {
			t.Fatal("P5.10", v)
		}
		before = r
	}
}

func TestP5_4Proven(t *testing.T) {
	l := []api.Test{{P: 50, Held: true, Tick: 10}, {P: 60, Tick: 20}, {P: 40, Held: true, Tick: 30}}
	const far = 1<<63 - 1
	for i, c := range []struct {
		l              []api.Test
		need, now, age int64
		ok             bool
	}{
		{l, 40, 35, 10, true}, {l, 45, 35, 10, false}, {l, 40, 35, 4, false}, {l, 40, 35, 5, true}, {l, 40, 29, 10, false}, {l, 40, 30, 0, true}, {l, 41, 30, 0, false}, {l, 50, 19, 9, true}, {l, 50, 19, 8, false}, {l, 51, 19, 9, false}, {l, 50, 20, 30, false}, {l, 50, 9, 30, false}, {l, 50, 10, 0, true}, {l, 40, 30, -1, false},
		{l, -5, 30, 0, true}, {nil, 0, 0, 0, false}, {[]api.Test{{P: 9, Held: true, Tick: 5}, {P: 9, Tick: 5}}, 1, 9, 9, false}, {[]api.Test{{P: 9, Tick: 5}, {P: 9, Held: true, Tick: 6}}, 1, 9, 9, true}, {[]api.Test{{P: 9, Held: true, Tick: 5}, {P: 9, Tick: 10}}, 1, 9, 9, true},
		{slices.Repeat(l[2:], 24), 40, 30, 0, true}, {slices.Repeat(l[2:], 25), 40, 30, 0, false},
		// Numbers at the ends of what there is.
		{[]api.Test{{P: 9, Held: true, Tick: -far - 1}}, 1, far, far, false}, {[]api.Test{{P: 9, Held: true, Tick: -1}}, 1, far - 1, far, true}, {[]api.Test{{P: 9, Held: true, Tick: -2}}, 1, far - 1, far, false}, {[]api.Test{{P: 9, Held: true, Tick: -far - 1}}, 1, -far, far, true}, {[]api.Test{{P: far, Held: true, Tick: far}}, -far, far, 0, true}, {[]api.Test{{P: far, Held: true, Tick: far}}, -far, -far, far, false},
	} {
		if ok := Proven(c.l, c.need, c.now, c.age); ok != c.ok {
			t.Error(i, ok)
		}
	}
}

func TestP5_11(t *testing.T) {
	roll := dice(511)
	for range 500 {
		var l []api.Test
		for range roll(6) {
			l = append(l, api.Test{P: roll(9), Held: roll(3) > 0, Tick: roll(20)})
		}
		need, now, age := roll(9), roll(25), roll(20)
		if !Proven(l, need, now, age) {
			continue
		}
		if !Proven(l, need-1, now, age) || !Proven(l, need, now, age+1) || Proven(append(l, api.Test{P: 99, Tick: now}), need, now, age) {
			t.Fatal(l, need, now, age)
		}
	}
}

func TestP5_4SameCopy(t *testing.T) {
	for i, change := range []func(j *api.Job){
		func(j *api.Job) { j.Ends[0]++ }, func(j *api.Job) { j.Loads[0].In.Knots[0].V++ }, func(j *api.Job) { j.Loads[0].Out.Knots[1].At++ }, func(j *api.Job) { j.Grades[1].Cost++ }, func(j *api.Job) { j.Factor++ }, func(j *api.Job) { j.Over++ }, func(j *api.Job) { j.Loads = nil }, func(j *api.Job) { j.Grades = j.Grades[:1] }, func(j *api.Job) { j.Ends = append(j.Ends, 1) },
	} {
		a := example()
		b := Copy(a)
		if !Same(a, b) {
			t.Error(i, "a copy is not the same")
		}
		change(&b)
		if Same(a, b) || !Same(a, example()) {
			t.Error(i, "a change is not seen, or seen in both")
		}
	}
	if !Same(api.Job{}, api.Job{Ends: []int64{}, Loads: []api.Stress{}, Grades: []api.Grade{}}) || !Same(api.Job{Loads: make([]api.Stress, 1)}, Copy(api.Job{Loads: []api.Stress{{In: api.Line{Knots: []api.Knot{}}}}})) {
		t.Error("nil and empty lists differ")
	}
}
