package kill

import (
	"slices"
	"testing"

	"moonpool/api"
)

func hole(l ...api.Seg) api.Hole { return api.Hole{Segs: l} }

func seg(long, rise, area int64) api.Seg {
	return api.Seg{Long: long, Rise: rise, Area: area, Gap: 50}
}

// example is the well W of the chapter, with its program P and its kick K.
func example() (api.Well, api.Program, api.Bubble) {
	w := api.Well{Hole: hole(seg(100000, 100000, 100)), Weight: 12000, Points: []api.Knot{{At: 2000000, V: 1200000000}}, Limit: 500000000, Pipe: 1000000, Step: 1000000}
	return w, api.Program{Kind: api.KillDriller, Weight: 13000, Margin: 10000000}, api.Bubble{Volume: 1000000, Pore: 1250000000}
}

func rangeOf(lo, hi int64) api.Range { return api.Range{Lo: lo, Hi: hi} }

// dice returns numbers that look random: the same ones each time.
func dice(seed uint64) func(n int64) int64 {
	return func(n int64) int64 {
		seed = seed*6364136223846793005 + 1442695040888963407
		return int64(seed>>33) % n
	}
}

// failsAlike reports whether all functions return the error for these arguments, and nothing else.
func failsAlike(w api.Well, p api.Program, k api.Bubble, want api.Errno) bool {
	m, e := At(w, p, k, 0, 0)
	run, f := Run(w, p, k, []int{5})
	o, g := Ends(w, p, k)
	last, ok := Last(w, p, k)
	return e == want && f == want && g == want && m.Pumped == 0 && m.Points == nil && m.Gas == api.Range{} && run == nil && o == api.Outcome{} && last == 0 && !ok
}

func TestP7_1Check(t *testing.T) {
	for i, c := range []struct {
		change func(w *api.Well)
		e      api.Errno
	}{
		{func(w *api.Well) {}, api.OK}, {func(w *api.Well) { w.Hole, w.Weight = hole(), -1 }, api.ErrShort}, {func(w *api.Well) { w.Hole = hole(make([]api.Seg, 17)...) }, api.ErrFull}, {func(w *api.Well) { w.Hole = hole(seg(1<<20+1, 0, 1)) }, api.ErrLong},
		{func(w *api.Well) { w.Weight, w.Points = -1, make([]api.Knot, 9) }, api.ErrRange}, {func(w *api.Well) { w.Weight = 40001 }, api.ErrRange}, {func(w *api.Well) { w.Weight = 40000 }, api.OK}, {func(w *api.Well) { w.Weight = 0 }, api.OK},
		{func(w *api.Well) { w.Points, w.Limit = make([]api.Knot, 9), -1 }, api.ErrFull}, {func(w *api.Well) { w.Points = nil }, api.OK}, {func(w *api.Well) {
			w.Points = []api.Knot{{At: 0}, {At: 1}, {At: 2}, {At: 3}, {At: 4}, {At: 5}, {At: 6}, {At: 10000000, V: 1 << 36}}
		}, api.OK},
		{func(w *api.Well) { w.Points = []api.Knot{{At: -1}} }, api.ErrRange}, {func(w *api.Well) { w.Points = []api.Knot{{At: 10000001}} }, api.ErrRange}, {func(w *api.Well) { w.Points = []api.Knot{{V: -1}} }, api.ErrRange}, {func(w *api.Well) { w.Points = []api.Knot{{V: 1<<36 + 1}} }, api.ErrRange},
		{func(w *api.Well) { w.Points = []api.Knot{{At: 5}, {At: 5}, {At: -1}} }, api.ErrOrder}, {func(w *api.Well) { w.Points = []api.Knot{{At: 5}, {At: 4, V: -1}} }, api.ErrRange}, {func(w *api.Well) { w.Points, w.Limit = []api.Knot{{At: 5}, {At: 4}}, -1 }, api.ErrOrder},
		{func(w *api.Well) { w.Limit = -1 }, api.ErrRange}, {func(w *api.Well) { w.Limit = 1 << 36 }, api.OK}, {func(w *api.Well) { w.Limit = 1<<36 + 1 }, api.ErrRange}, {func(w *api.Well) { w.Pipe = -1 }, api.ErrRange}, {func(w *api.Well) { w.Pipe = 1 << 40 }, api.OK}, {func(w *api.Well) { w.Pipe = 1<<40 + 1 }, api.ErrRange},
		{func(w *api.Well) { w.Step = 0 }, api.ErrRange}, {func(w *api.Well) { w.Step = 10000000 }, api.OK}, {func(w *api.Well) { w.Step = 10000001 }, api.ErrRange},
	} {
		w, p, k := example()
		c.change(&w)
		if e := Check(w); e != c.e {
			t.Error(i, e, c.e)
		}
		if c.e == api.OK {
			continue
		}
		_, _, e := Verify(w, api.Program{}, nil, nil)
		_, f := Tolerance(w, api.Program{}, 0, 0, -1)
		_, g := Choose(w, []api.Program{p}, nil, nil)
		if !failsAlike(w, api.Program{}, api.Bubble{}, c.e) || !failsAlike(w, p, k, c.e) || e != c.e || f != c.e || g != c.e {
			t.Error(i, "not valid")
		}
	}
}

func TestP7_1Program(t *testing.T) {
	for i, c := range []struct {
		p api.Program
		e api.Errno
	}{
		{api.Program{Kind: 1}, api.OK}, {api.Program{Kind: 2}, api.OK}, {api.Program{Kind: 3, Weight: 40000, Margin: 1 << 34, Err: 1 << 34}, api.OK}, {api.Program{Kind: 0, Weight: -1}, api.ErrKind}, {api.Program{Kind: 4}, api.ErrKind}, {api.Program{Kind: -1 << 63}, api.ErrKind},
		{api.Program{Kind: 1, Weight: -1}, api.ErrRange}, {api.Program{Kind: 1, Weight: 40001}, api.ErrRange}, {api.Program{Kind: 1, Margin: -1}, api.ErrRange}, {api.Program{Kind: 1, Margin: 1<<34 + 1}, api.ErrRange}, {api.Program{Kind: 1, Err: -1}, api.ErrRange}, {api.Program{Kind: 1, Err: 1<<34 + 1}, api.ErrRange},
	} {
		w, _, k := example()
		_, _, e := Verify(w, c.p, nil, nil)
		_, f := Tolerance(w, c.p, 0, 0, -1)
		_, g := Choose(w, []api.Program{c.p}, nil, nil)
		if CheckProgram(c.p) != c.e || c.e != api.OK && (!failsAlike(w, c.p, api.Bubble{}, c.e) || e != c.e || f != c.e || g != c.e || Bottom(c.p, k, 0) != 0) {
			t.Error(i, CheckProgram(c.p), e, f, g)
		}
	}
	for i, c := range []struct {
		k api.Bubble
		e api.Errno
	}{
		{api.Bubble{Volume: 1, Pore: 1}, api.OK}, {api.Bubble{Volume: 1 << 24, Pore: 1 << 34}, api.OK}, {api.Bubble{Volume: 0, Pore: 1}, api.ErrRange}, {api.Bubble{Volume: 1<<24 + 1, Pore: 1}, api.ErrRange}, {api.Bubble{Volume: 1, Pore: 0}, api.ErrRange}, {api.Bubble{Volume: 1, Pore: 1<<34 + 1}, api.ErrRange}, {api.Bubble{Volume: -1 << 63, Pore: -1 << 63}, api.ErrRange},
	} {
		w, p, _ := example()
		if CheckKick(c.k) != c.e || c.e != api.OK && (!failsAlike(w, p, c.k, c.e) || Bottom(p, c.k, 0) != 0) {
			t.Error(i, CheckKick(c.k))
		}
	}
}

func TestP7_1Bottom(t *testing.T) {
	for i, c := range []struct {
		pore, margin, err int64
		e                 int
		want              int64
	}{
		{1250000000, 10000000, 0, 0, 1260000000}, {100, 10, 3, -1, 107}, {100, 10, 3, 1, 113}, {100, 10, 3, 2, 0}, {100, 10, 3, -2, 0}, {100, 10, 200, -1, 1}, {100, 10, 110, -1, 1}, {100, 10, 109, -1, 1}, {100, 10, 108, -1, 2}, {1 << 34, 1 << 34, 1 << 34, 1, 3 << 34}, {100, 10, 3, -1 << 63, 0},
	} {
		p := api.Program{Kind: 1, Margin: c.margin, Err: c.err}
		if b := Bottom(p, api.Bubble{Volume: 5, Pore: c.pore}, c.e); b != c.want {
			t.Error(i, b)
		}
	}
}

func TestP7_2Examples(t *testing.T) {
	w, p, k := example()
	m, e := At(w, p, k, 0, 0)
	if e != api.OK || m.Pumped != 0 || m.Gas != rangeOf(992063, 992064) || m.Base != rangeOf(1260000000, 1260000000) || m.Surface != rangeOf(179040000, 179052000) || !slices.Equal(m.Points, []api.Range{rangeOf(1139040000, 1139052000)}) {
		t.Error(m, e)
	}
	m, e = At(w, p, k, 1, 0)
	if e != api.OK || m.Pumped != 1000000 || m.Gas != rangeOf(1096491, 1096492) || m.Base != rangeOf(1140000000, 1140000000) || m.Surface != rangeOf(191568000, 191580000) {
		t.Error(m, e)
	}
	for i, c := range []struct {
		step, err int
		e         api.Errno
	}{{-1, 0, api.ErrRange}, {401, 0, api.ErrRange}, {400, 1, api.OK}, {0, 2, api.ErrRange}, {0, -2, api.ErrRange}, {-1 << 63, 0, api.ErrRange}} {
		if _, e := At(w, p, k, c.step, c.err); e != c.e {
			t.Error(i, e)
		}
	}
	// A point at the border of the kill mud, and one at that of the gas: both are below, even if no height there is whole.
	border, circulate, small := w, p, k
	circulate.Kind, border.Pipe, border.Points = api.KillWait, 950, []api.Knot{{At: 999050}}
	if m, _ := At(border, circulate, k, 1, 0); m.Points[0] != rangeOf(1260000000-13000*9991, 1260000000-13000*9990) {
		t.Error(m)
	}
	border.Step, border.Points[0].At, small.Volume = 1000050, 1000050, 1
	if m, _ := At(border, p, small, 1, 0); m.Points[0] != m.Base || m.Base != rangeOf(1260000000-12000*10001, 1260000000-12000*10000) {
		t.Error(m)
	}
	// At the top of the hole the point is below the gas, and the choke above it.
	w.Points[0].At = 10000000
	m, _ = At(w, p, k, 10, 0)
	if m.Base != rangeOf(60000000, 60000000) || m.Points[0] != m.Base || m.Surface != m.Base {
		t.Error(m)
	}
	m, _ = At(w, p, k, 400, 0)
	if m.Pumped != 400000000 || m.Base != rangeOf(60000000, 60000000) || m.Gas != rangeOf(20833333, 20833334) {
		t.Error(m)
	}
}

// upright is a hole whose places are heights, so that nothing needs an enclosure but the gas.
func upright(roll func(int64) int64) (api.Well, api.Program, api.Bubble) {
	n := 200 + roll(800)
	w := api.Well{Hole: hole(seg(n, n, 1)), Weight: roll(30), Limit: roll(30000), Pipe: roll(n), Step: 1 + roll(n/4)}
	for at := roll(100); at <= n && len(w.Points) < 8; at += 1 + roll(300) {
		w.Points = append(w.Points, api.Knot{At: at, V: roll(40000)})
	}
	p := api.Program{Kind: int(1 + roll(3)), Weight: roll(50), Margin: roll(3000), Err: roll(1500)}
	return w, p, api.Bubble{Volume: 1 + roll(n), Pore: 1 + roll(20000)}
}

// expected is a moment in such a hole, after the document's words.
func expected(w api.Well, p api.Program, k api.Bubble, step, err int64) api.Moment {
	u := w.Hole.Segs[0].Long
	b := max(1, k.Pore+p.Margin+err*p.Err)
	m := step * w.Step
	amount := k.Volume * k.Pore
	up := func(a, b int64) int64 { return (a + b - 1) / b }
	cut := func(x int64) int64 { return min(x, u) }
	out := api.Moment{Pumped: m}
	var at func(x int64, below bool) api.Range
	if p.Kind == api.KillBull {
		out.Gas = rangeOf(max(0, amount/b-m), max(0, up(amount, b)-m))
		out.Base = rangeOf(b, b)
		border := max(0, u-m)
		at = func(x int64, _ bool) api.Range {
			mud := rangeOf(max(0, min(x, border)-cut(out.Gas.Hi)), max(0, min(x, border)-cut(out.Gas.Lo)))
			kill := max(0, x-border)
			return rangeOf(b-w.Weight*mud.Hi-p.Weight*kill, b-w.Weight*mud.Lo-p.Weight*kill)
		}
	} else {
		c := int64(0)
		if p.Kind == api.KillWait {
			c = max(0, cut(m)-w.Pipe)
		}
		down := func(x int64) int64 { return b - p.Weight*min(x, c) - w.Weight*max(0, x-c) }
		base := down(cut(m))
		out.Base = rangeOf(base, base)
		out.Gas = rangeOf(amount/max(1, base), up(amount, max(1, base)))
		at = func(x int64, below bool) api.Range {
			if below && x <= m {
				return rangeOf(down(x), down(x))
			}
			return rangeOf(base-w.Weight*max(0, x-cut(m+out.Gas.Lo)), base-w.Weight*max(0, x-cut(m+out.Gas.Hi)))
		}
	}
	for _, x := range w.Points {
		out.Points = append(out.Points, at(x.At, true))
	}
	out.Surface = at(u, false)
	return out
}

func sameMoment(a, b api.Moment) bool {
	return a.Pumped == b.Pumped && a.Gas == b.Gas && a.Base == b.Base && a.Surface == b.Surface && slices.Equal(a.Points, b.Points)
}

func TestP7_2Moments(t *testing.T) {
	roll := dice(72)
	for range 2000 {
		w, p, k := upright(roll)
		step, err := roll(20), roll(3)-1
		if m, e := At(w, p, k, int(step), int(err)); e != api.OK || !sameMoment(m, expected(w, p, k, step, err)) {
			t.Fatal(w, p, k, step, err, m, expected(w, p, k, step, err), e)
		}
	}
}

func TestP7_2Run(t *testing.T) {
	roll := dice(720)
	long := 0
	for range 300 {
		w, p, k := upright(roll)
		u := w.Hole.Segs[0].Long
		want, ok := 0, false
		for ; want < 400; want++ {
			m := expected(w, p, k, int64(want), -1)
			if ok = m.Pumped+m.Gas.Hi >= u && p.Kind != api.KillBull || m.Gas.Hi == 0 && p.Kind == api.KillBull; ok {
				break
			}
		}
		last, found := Last(w, p, k)
		if last != want || found != ok {
			t.Fatal(w, p, k, last, found, want)
		}
		errs := []int{int(roll(3)) - 1, int(roll(3)) - 1}
		run, e := Run(w, p, k, errs)
		if e != api.OK || len(run) != last+1 {
			t.Fatal(len(run), e)
		}
		for n, m := range run {
			err := 0
			if n < 2 {
				err = errs[n]
			}
			if !sameMoment(m, expected(w, p, k, int64(n), int64(err))) {
				t.Fatal(n, m)
			}
		}
		long = max(long, last)
	}
	if long < 50 {
		t.Error("no long run", long)
	}
	w, p, k := example()
	w.Step = 1
	if last, ok := Last(w, p, k); last != 400 || ok {
		t.Error(last, ok)
	}
	if run, e := Run(w, p, k, make([]int, 400)); len(run) != 401 || e != api.OK {
		t.Error(len(run), e)
	}
	if run, e := Run(w, p, k, make([]int, 401)); run != nil || e != api.ErrRange {
		t.Error(len(run), e)
	}
	if run, e := Run(w, p, k, []int{0, 1, -1, 2}); run != nil || e != api.ErrRange {
		t.Error(len(run), e)
	}
	// Just at the last step there may be: 400 times 25000 is the volume.
	w.Step, w.Weight = 25000, 0
	k.Volume = 1
	if last, ok := Last(w, p, k); last != 400 || !ok {
		t.Error(last, ok)
	}
	p.Kind, w.Step, k.Volume = api.KillBull, 2500, 1000000 // the gas at the bottom takes up 992,064
	if last, ok := Last(w, p, k); last != 397 || !ok {
		t.Error(last, ok)
	}
	w.Step = 2480
	if last, ok := Last(w, p, k); last != 400 || ok {
		t.Error(last, ok)
	}
}
