package kill

import (
	"math/big"
	"slices"
	"testing"

	"moonpool/api"
)

func TestP7_3Ends(t *testing.T) {
	// The pressures at the choke are 179040000 to 179052000 at first, and 417132000 to 417144000 at most, at the step 7.
	for i, c := range []struct {
		change func(w *api.Well, p *api.Program, k *api.Bubble)
		want   api.Outcome
	}{
		{func(w *api.Well, p *api.Program, k *api.Bubble) {}, api.Outcome{Is: api.Killed, Step: 8}},
		{func(w *api.Well, p *api.Program, k *api.Bubble) { w.Limit = 179051999 }, api.Outcome{Is: api.Unsure, Err: -1, Why: api.WhyLimit}},
		{func(w *api.Well, p *api.Program, k *api.Bubble) { w.Limit = 179040000 }, api.Outcome{Is: api.Unsure, Err: -1, Why: api.WhyLimit}},
		{func(w *api.Well, p *api.Program, k *api.Bubble) { w.Limit = 179039999 }, api.Outcome{Is: api.Broken, Err: -1, Why: api.WhyLimit}},
		{func(w *api.Well, p *api.Program, k *api.Bubble) { w.Limit = 179052000 }, api.Outcome{Is: api.Broken, Step: 1, Err: -1, Why: api.WhyLimit}},
		{func(w *api.Well, p *api.Program, k *api.Bubble) { w.Limit = 417143999 }, api.Outcome{Is: api.Unsure, Step: 7, Err: -1, Why: api.WhyLimit}},
		{func(w *api.Well, p *api.Program, k *api.Bubble) { w.Limit = 417144000 }, api.Outcome{Is: api.Killed, Step: 8}},
		{func(w *api.Well, p *api.Program, k *api.Bubble) { w.Limit, p.Err = 180000000, 2000000 }, api.Outcome{Is: api.Broken, Err: 1, Why: api.WhyLimit}},
		{func(w *api.Well, p *api.Program, k *api.Bubble) { w.Limit, p.Err = 179000000, 2000000 }, api.Outcome{Is: api.Broken, Err: 0, Why: api.WhyLimit}},
		{func(w *api.Well, p *api.Program, k *api.Bubble) { p.Err = 10000000 }, api.Outcome{Is: api.Killed, Step: 7}}, // the last step is that of the error -1,
		{func(w *api.Well, p *api.Program, k *api.Bubble) { p.Err = 10000001 }, api.Outcome{Is: api.Broken, Err: -1, Why: api.WhyPore}},
		{func(w *api.Well, p *api.Program, k *api.Bubble) { p.Err, w.Points[0].V = 10000001, 0 }, api.Outcome{Is: api.Broken, Err: -1, Why: api.WhyPore}},
		{func(w *api.Well, p *api.Program, k *api.Bubble) { w.Points[0].V = 1130000000 }, api.Outcome{Is: api.Broken, Err: -1, Why: api.WhyFrac}},
		{func(w *api.Well, p *api.Program, k *api.Bubble) { w.Points[0].V, w.Limit = 1130000000, 0 }, api.Outcome{Is: api.Broken, Err: -1, Why: api.WhyFrac}},
		{func(w *api.Well, p *api.Program, k *api.Bubble) { w.Points[0].V = 1139051999 }, api.Outcome{Is: api.Unsure, Err: -1, Why: api.WhyFrac}},
		{func(w *api.Well, p *api.Program, k *api.Bubble) { w.Points[0].V = 1139040000 }, api.Outcome{Is: api.Unsure, Err: -1, Why: api.WhyFrac}},
		{func(w *api.Well, p *api.Program, k *api.Bubble) { w.Points[0].V = 1139999999 }, api.Outcome{Is: api.Broken, Step: 1, Err: -1, Why: api.WhyFrac}},
		{func(w *api.Well, p *api.Program, k *api.Bubble) { w.Points[0].V = 1140000000 }, api.Outcome{Is: api.Killed, Step: 8}},
		{func(w *api.Well, p *api.Program, k *api.Bubble) {
			w.Points = []api.Knot{{At: 0, V: 1300000001}, {At: 2000000, V: 1130000000}, {At: 3000000, V: 0}}
		}, api.Outcome{Is: api.Broken, Err: -1, Why: api.WhyFrac, Point: 1}},
		// The choke: for this volume the top of the gas is half a cm above a whole height.
		{func(w *api.Well, p *api.Program, k *api.Bubble) { k.Volume, k.Pore, p.Margin = 1000050, 1079999999, 0 }, api.Outcome{Is: api.Unsure, Err: -1, Why: api.WhyChoke}},
		{func(w *api.Well, p *api.Program, k *api.Bubble) { k.Volume, k.Pore, p.Margin = 1000050, 1079988000, 0 }, api.Outcome{Is: api.Unsure, Err: -1, Why: api.WhyChoke}},
		{func(w *api.Well, p *api.Program, k *api.Bubble) { k.Volume, k.Pore, p.Margin = 1000050, 1079987999, 0 }, api.Outcome{Is: api.Broken, Err: -1, Why: api.WhyChoke}},
		{func(w *api.Well, p *api.Program, k *api.Bubble) { k.Volume, k.Pore, p.Margin = 1000050, 1080000000, 0 }, api.Outcome{Is: api.Killed, Step: 7}},
		{func(w *api.Well, p *api.Program, k *api.Bubble) { w.Weight, w.Limit = 16000, 0 }, api.Outcome{Is: api.Broken, Err: -1, Why: api.WhyChoke}},
		{func(w *api.Well, p *api.Program, k *api.Bubble) { w.Step = 1 }, api.Outcome{Is: api.Unsure, Step: 400, Why: api.WhyLong}},
		{func(w *api.Well, p *api.Program, k *api.Bubble) { w.Step, p.Weight = 1, 0 }, api.Outcome{Is: api.Unsure, Step: 400, Why: api.WhyLong}},
		{func(w *api.Well, p *api.Program, k *api.Bubble) { p.Weight = 12499 }, api.Outcome{Is: api.Broken, Step: 8, Why: api.WhyDead}},
		{func(w *api.Well, p *api.Program, k *api.Bubble) { p.Weight = 12500 }, api.Outcome{Is: api.Killed, Step: 8}},
		{func(w *api.Well, p *api.Program, k *api.Bubble) { p.Weight = 15000 }, api.Outcome{Is: api.Killed, Step: 8}},
		{func(w *api.Well, p *api.Program, k *api.Bubble) {
			p.Weight, w.Points = 15001, append([]api.Knot{{At: 0, V: 1 << 36}}, w.Points...)
		}, api.Outcome{Is: api.Broken, Step: 8, Why: api.WhyDead, Point: 1}},
		{func(w *api.Well, p *api.Program, k *api.Bubble) {
			p.Weight, w.Points[0] = 15000, api.Knot{At: 2000050, V: 1199990000}
		}, api.Outcome{Is: api.Unsure, Step: 8, Why: api.WhyDead}},
		{func(w *api.Well, p *api.Program, k *api.Bubble) {
			p.Weight, w.Points[0] = 15000, api.Knot{At: 2000050, V: 1199985000}
		}, api.Outcome{Is: api.Unsure, Step: 8, Why: api.WhyDead}},
		{func(w *api.Well, p *api.Program, k *api.Bubble) {
			p.Weight, w.Points[0] = 15000, api.Knot{At: 2000050, V: 1199984999}
		}, api.Outcome{Is: api.Broken, Step: 8, Why: api.WhyDead}},
		{func(w *api.Well, p *api.Program, k *api.Bubble) { p.Kind = api.KillWait }, api.Outcome{Is: api.Killed, Step: 7}},
		{func(w *api.Well, p *api.Program, k *api.Bubble) { p.Kind = api.KillBull }, api.Outcome{Is: api.Killed, Step: 1}},
		{func(w *api.Well, p *api.Program, k *api.Bubble) { p.Kind, p.Weight = api.KillBull, 18001 }, api.Outcome{Is: api.Broken, Step: 1, Err: -1, Why: api.WhyChoke}},
	} {
		w, p, k := example()
		c.change(&w, &p, &k)
		if o, e := Ends(w, p, k); o != c.want || e != api.OK {
			t.Error(i, o, e)
		}
	}
}

func TestP7_4Verify(t *testing.T) {
	w, p, _ := example()
	pores, volumes := []int64{1240000000, 1250000000}, []int64{500000, 1000000}
	for i, c := range []struct {
		volumes, pores []int64
		e              api.Errno
	}{
		{volumes, pores, api.OK}, {nil, nil, api.ErrShort}, {make([]int64, 9), nil, api.ErrFull}, {[]int64{5, 5}, nil, api.ErrOrder}, {volumes, nil, api.ErrShort}, {volumes, make([]int64, 9), api.ErrFull}, {volumes, []int64{5, 4}, api.ErrOrder}, {[]int64{0}, []int64{5, 4}, api.ErrOrder},
		{[]int64{0}, pores, api.ErrRange}, {[]int64{1<<24 + 1}, pores, api.ErrRange}, {volumes, []int64{0, 5}, api.ErrRange}, {volumes, []int64{1<<34 + 1}, api.ErrRange}, {[]int64{1, 2, 3, 4, 5, 6, 7, 8}, pores, api.OK}, {[]int64{-1 << 63}, pores, api.ErrRange},
	} {
		k, o, e := Verify(w, p, c.volumes, c.pores)
		if e != c.e || e != api.OK && (k != api.Bubble{} || o != api.Outcome{}) {
			t.Error(i, k, o, e)
		}
		if n, e := Choose(w, []api.Program{p}, c.volumes, c.pores); e != c.e || n != 0 {
			t.Error(i, n, e)
		}
	}
	k, o, _ := Verify(w, p, volumes, pores)
	if k != (api.Bubble{Volume: 1000000, Pore: 1250000000}) || o != (api.Outcome{Is: api.Killed, Step: 8}) {
		t.Error(k, o)
	}
	w.Limit = 179051999 // a kick of a lesser pore pressure has less pressure at the choke
	if k, o, _ := Verify(w, p, volumes, pores); o.Is == api.Killed || k != (api.Bubble{Volume: 500000, Pore: 1240000000}) {
		t.Error(k, o)
	}
	w.Limit = 410000000
	if k, o, _ := Verify(w, p, volumes, pores); o.Is == api.Killed || k != (api.Bubble{Volume: 1000000, Pore: 1240000000}) && k != (api.Bubble{Volume: 1000000, Pore: 1250000000}) {
		t.Error(k, o)
	}
}

// randomWell is like the example, with other numbers.
func randomWell(roll func(int64) int64) (api.Well, api.Program, api.Bubble) {
	w, p, k := example()
	w.Hole = hole(seg(20000+roll(20000), 15000+roll(5000), 90+roll(100)), seg(70000, 60000+roll(10000), 100+roll(100)))
	w.Step = 500000 + roll(700000)
	w.Weight = 11000 + roll(2000)
	w.Points = []api.Knot{{At: roll(1000000), V: 900000000 + roll(600000000)}, {At: 1000000 + roll(2000000), V: 900000000 + roll(600000000)}}
	w.Limit = 100000000 + roll(600000000)
	w.Pipe = roll(5000000)
	p.Kind = int(1 + roll(3))
	p.Weight = 12000 + roll(5000)
	p.Margin = roll(30000000)
	p.Err = roll(10000000)
	k.Pore = 1000000000 + roll(250000000)
	k.Volume = 1 + roll(1500000)
	return w, p, k
}

// TestP7_4First compares with the outcomes of all kicks, and with Choose: P7.9 and P7.12.
func TestP7_4First(t *testing.T) {
	roll := dice(74)
	killed, shown := 0, 0
	for range 100 {
		w, p, _ := randomWell(roll)
		w.Limit += 200000000
		for i := range w.Points {
			w.Points[i].V += roll(400000000)
		}
		volumes := []int64{100000 + roll(300000), 500000 + roll(300000), 900000 + roll(300000)}
		pores := []int64{1000000000 + roll(90000000), 1100000000 + roll(90000000)}
		k, o, e := Verify(w, p, volumes, pores)
		var want api.Bubble
		var last api.Outcome
	kicks:
		for _, v := range volumes {
			for _, pore := range pores {
				want = api.Bubble{Volume: v, Pore: pore}
				if last, _ = Ends(w, p, want); last.Is != api.Killed {
					shown++
					break kicks
				}
			}
		}
		if e != api.OK || k != want || o != last {
			t.Fatal(k, want, o, last, e)
		}
		_, other, _ := randomWell(roll)
		n, e := Choose(w, []api.Program{other, p}, volumes, pores)
		_, first, _ := Verify(w, other, volumes, pores)
		if e != api.OK || (n == 0) != (first.Is == api.Killed) || (n == 1) != (first.Is != api.Killed && o.Is == api.Killed) || n < -1 || n > 1 {
			t.Fatal(n, e)
		}
		if o.Is == api.Killed {
			killed++
		}
	}
	if killed < 5 || shown < 5 {
		t.Error(killed, shown)
	}
}

func TestP7_5Tolerance(t *testing.T) {
	w, p, _ := example()
	for i, c := range []struct {
		pore, step int64
		most       int
		want       int
		e          api.Errno
	}{
		{1250000000, 65536, 0, 0, api.OK}, {1250000000, 65536, 5, 5, api.OK}, {1250000000, 65536, 64, 23, api.OK}, {1250000000, 65536, 23, 23, api.OK}, {1250000000, 65536, 24, 23, api.OK}, {1 << 34, 65536, 5, 0, api.OK}, {0, 65536, 5, 0, api.ErrRange}, {1<<34 + 1, 65536, 5, 0, api.ErrRange}, {1250000000, 0, 5, 0, api.ErrRange}, {1250000000, 65537, 5, 0, api.ErrRange}, {1250000000, 65536, -1, 0, api.ErrRange}, {1250000000, 65536, 65, 0, api.ErrRange}, {1250000000, 1, 64, 64, api.OK},
	} {
		n, e := Tolerance(w, p, c.pore, c.step, c.most)
		want := 0
		for ; want < c.most && c.e == api.OK; want++ {
			if o, _ := Ends(w, p, api.Bubble{Volume: int64(want+1) * c.step, Pore: c.pore}); o.Is != api.Killed {
				break
			}
		}
		if e != c.e || n != want || n != c.want {
			t.Error(i, n, want, e)
		}
	}
	before := 0
	for w.Limit = 200000000; w.Limit < 900000000; w.Limit += 100000000 {
		n, _ := Tolerance(w, p, 1250000000, 65536, 64)
		if n < before {
			t.Error("P7.12", n, before)
		}
		before = n
	}
	if before < 20 {
		t.Error(before)
	}
}

func TestP7_5Choose(t *testing.T) {
	w, p, _ := example()
	volumes, pores := []int64{1000000}, []int64{1250000000}
	light, wrong := p, p
	light.Weight, wrong.Weight = 12499, -1
	for i, c := range []struct {
		l    []api.Program
		want int
		e    api.Errno
	}{
		{nil, -1, api.OK}, {[]api.Program{p}, 0, api.OK}, {[]api.Program{light, p, wrong}, 1, api.OK}, {[]api.Program{light, wrong, p}, 0, api.ErrRange}, {[]api.Program{light, light}, -1, api.OK}, {slices.Repeat([]api.Program{light}, 8), -1, api.OK}, {slices.Repeat([]api.Program{wrong}, 9), 0, api.ErrFull},
	} {
		if n, e := Choose(w, c.l, volumes, pores); n != c.want || e != c.e {
			t.Error(i, n, e)
		}
	}
	w.Weight = -1
	if n, e := Choose(w, nil, nil, nil); n != -1 || e != api.OK {
		t.Error(n, e)
	}
}

// TestP7_3Again finds outcomes from the moments of At: the first one outside, of all steps and errors in order.
func TestP7_3Again(t *testing.T) {
	roll := dice(730)
	late := 0
	for range 400 {
		w, p, k := randomWell(roll)
		last, ok := Last(w, p, k)
		// Let just one kind of trouble begin where the pressure at the choke is greatest.
		most := int64(0)
		for n := range last + 1 {
			for err := -1; err <= 1; err++ {
				m, _ := At(w, p, k, n, err)
				most = max(most, m.Surface.Hi)
			}
		}
		w.Limit = max(0, most-roll(2))
		for i := range w.Points {
			w.Points[i].V += roll(2) * 600000000
		}
		want, found := api.Outcome{}, false
		for n := 0; n <= last && !found; n++ {
			for err := -1; err <= 1 && !found; err++ {
				m, _ := At(w, p, k, n, err)
				want, found = first(w, p, k, m, err)
				want.Step, want.Err = n, err
			}
		}
		o, _ := Ends(w, p, k)
		if found && o != want || !found && ok && o.Why != api.WhyDead && o.Is != api.Killed || !found && !ok && o.Why != api.WhyLong {
			t.Fatal(o, want, found)
		}
		if found && want.Step > 0 || !found {
			late++
		}
	}
	if late < 50 {
		t.Error(late)
	}
}

// first is the first reason for which a moment is outside of the window.
func first(w api.Well, p api.Program, k api.Bubble, m api.Moment, err int) (api.Outcome, bool) {
	is := func(sure bool) int {
		if sure {
			return api.Broken
		}
		return api.Unsure
	}
	if k.Pore+p.Margin+int64(err)*p.Err < k.Pore {
		return api.Outcome{Is: api.Broken, Why: api.WhyPore}, true
	}
	for i, x := range m.Points {
		if x.Hi > w.Points[i].V {
			return api.Outcome{Is: is(x.Lo > w.Points[i].V), Why: api.WhyFrac, Point: i}, true
		}
	}
	if m.Surface.Lo < 0 {
		return api.Outcome{Is: is(m.Surface.Hi < 0), Why: api.WhyChoke}, true
	}
	if m.Surface.Hi > w.Limit {
		return api.Outcome{Is: is(m.Surface.Lo > w.Limit), Why: api.WhyLimit}, true
	}
	return api.Outcome{}, false
}

// leavesWindow reports whether a moment is outside of the window, for certain or perhaps.
func leavesWindow(w api.Well, p api.Program, k api.Bubble, m api.Moment, err int) (perhaps, sure bool) {
	low := Bottom(p, k, err) < k.Pore
	perhaps = low || m.Surface.Lo < 0 || m.Surface.Hi > w.Limit
	sure = low || m.Surface.Hi < 0 || m.Surface.Lo > w.Limit
	for i, x := range m.Points {
		perhaps = perhaps || x.Hi > w.Points[i].V
		sure = sure || x.Lo > w.Points[i].V
	}
	return perhaps, sure
}

// TestP7_6 checks the runs of random kicks with random errors: P7.6, P7.7, P7.8, P7.10 and P7.13.
func TestP7_6(t *testing.T) {
	roll := dice(76)
	var ends [4]int
	for range 400 {
		w, p, k := randomWell(roll)
		o, _ := Ends(w, p, k)
		ends[o.Is]++
		var errs []int
		for range 30 {
			errs = append(errs, int(roll(3))-1)
		}
		run, _ := Run(w, p, k, errs)
		more := k
		more.Volume += roll(300000)
		for n, m := range run {
			err := 0
			if n < len(errs) {
				err = errs[n]
			}
			if perhaps, _ := leavesWindow(w, p, k, m, err); perhaps && (o.Is == api.Killed || n < o.Step && o.Why != api.WhyDead) {
				t.Fatal("P7.6", w, p, k, n, m)
			}
			amount := k.Volume * k.Pore
			if p.Kind != api.KillBull && m.Base.Lo > 0 && (m.Gas.Lo*m.Base.Lo > amount || m.Gas.Hi*m.Base.Hi < amount) {
				t.Fatal("P7.10", m)
			}
			x, _ := At(w, p, more, n, err)
			for i := range m.Points {
				if p.Kind != api.KillBull && (x.Points[i].Lo < m.Points[i].Lo || x.Points[i].Hi < m.Points[i].Hi || x.Surface.Lo < m.Surface.Lo || x.Surface.Hi < m.Surface.Hi) {
					t.Fatal("P7.13", x, m)
				}
			}
		}
		if o.Is == api.Broken && o.Why != api.WhyDead {
			m, _ := At(w, p, k, o.Step, o.Err)
			if _, sure := leavesWindow(w, p, k, m, o.Err); !sure {
				t.Fatal("P7.7", m, o)
			}
		}
		w.Limit += roll(9)
		w.Points[0].V += roll(9)
		if x, _ := Ends(w, p, k); o.Is == api.Killed && x.Is != api.Killed {
			t.Fatal("P7.8")
		}
	}
	if ends[api.Killed] < 20 || ends[api.Broken] < 20 {
		t.Error(ends)
	}
}

func TestP7_11(t *testing.T) {
	roll := dice(711)
	for range 100 {
		w, p, k := randomWell(roll)
		for n := range 20 {
			p.Kind = api.KillDriller
			a, _ := At(w, p, k, n, 0)
			p.Kind = api.KillWait
			b, _ := At(w, p, k, n, 0)
			if a.Pumped <= w.Pipe && !sameMoment(a, b) || a.Pumped > w.Pipe && a.Base == b.Base && p.Weight != w.Weight {
				t.Fatal(a, b)
			}
		}
	}
}

// exactHeight is the height at a place, which may be a fraction.
func exactHeight(h api.Hole, place *big.Rat) *big.Rat {
	sum, left := new(big.Rat), new(big.Rat).Set(place)
	for _, s := range h.Segs {
		v := big.NewRat(s.Long*s.Area, 1)
		if left.Cmp(v) < 0 {
			v = new(big.Rat).Set(left)
		}
		left.Sub(left, v)
		sum.Add(sum, v.Mul(v, big.NewRat(s.Rise, s.Long*s.Area)))
	}
	return sum
}

// TestP7_6Exact checks that the enclosures hold the pressures computed without rounding.
func TestP7_6Exact(t *testing.T) {
	roll := dice(760)
	num := func(n int64) *big.Rat { return big.NewRat(n, 1) }
	sub := func(a, b *big.Rat) *big.Rat { return new(big.Rat).Sub(a, b) }
	mul := func(a, b *big.Rat) *big.Rat { return new(big.Rat).Mul(a, b) }
	in := func(x *big.Rat, r api.Range) bool { return num(r.Lo).Cmp(x) <= 0 && x.Cmp(num(r.Hi)) <= 0 }
	orZero := func(x *big.Rat) *big.Rat {
		if x.Sign() < 0 {
			return new(big.Rat)
		}
		return x
	}
	for range 300 {
		w, p, k := randomWell(roll)
		volume := int64(0)
		for _, s := range w.Hole.Segs {
			volume += s.Long * s.Area
		}
		h := func(place *big.Rat) *big.Rat { return exactHeight(w.Hole, place) }
		step, err := int(roll(12)), int(roll(3))-1
		m, _ := At(w, p, k, step, err)
		b, amount, pumped := num(Bottom(p, k, err)), num(k.Volume*k.Pore), num(min(volume, m.Pumped))
		weight, killed := num(w.Weight), num(p.Weight)
		var at func(x *big.Rat) *big.Rat
		if p.Kind == api.KillBull {
			gas := orZero(sub(new(big.Rat).Quo(amount, b), num(m.Pumped)))
			border := num(max(0, volume-m.Pumped))
			at = func(x *big.Rat) *big.Rat {
				low := x
				if border.Cmp(x) < 0 {
					low = border
				}
				return sub(sub(b, mul(weight, orZero(sub(h(low), h(gas))))), mul(killed, orZero(sub(h(x), h(border)))))
			}
			if !in(gas, m.Gas) || !in(b, m.Base) {
				t.Fatal(gas, m)
			}
		} else {
			c := new(big.Rat)
			if p.Kind == api.KillWait {
				c = num(max(0, min(m.Pumped, volume)-w.Pipe))
			}
			down := func(x *big.Rat) *big.Rat {
				if x.Cmp(c) <= 0 {
					return sub(b, mul(killed, h(x)))
				}
				return sub(sub(b, mul(killed, h(c))), mul(weight, sub(h(x), h(c))))
			}
			base := down(pumped)
			if base.Cmp(num(1)) < 0 {
				continue
			}
			gas := new(big.Rat).Quo(amount, base)
			top := new(big.Rat).Add(num(m.Pumped), gas)
			at = func(x *big.Rat) *big.Rat {
				if x.Cmp(num(m.Pumped)) <= 0 && x.Cmp(num(volume)) < 0 {
					return down(x)
				}
				return sub(base, mul(weight, orZero(sub(h(x), h(top)))))
			}
			if !in(gas, m.Gas) || !in(base, m.Base) {
				t.Fatal(gas, base, m)
			}
		}
		for i, x := range w.Points {
			if !in(at(num(x.At)), m.Points[i]) {
				t.Fatal(i, m)
			}
		}
		if !in(at(num(volume)), m.Surface) {
			t.Fatal(m)
		}
	}
}
