package path

import (
	"slices"
	"testing"

	"moonpool/api"
)

func TestP1_5Examples(t *testing.T) {
	s, u := at(100, 0, 0), []api.Source{same(2, 1, at(100, 0, 0))}
	p, q := bent(), straight()
	ps, qs := []api.Source{same(1, 2, s)}, []api.Source{same(1, 1, s)}
	if _, e := Known(p, ps, q, qs, 9700); e != api.ErrRange {
		t.Error(e)
	}
	if k, e := Known(p, ps, q, qs, 4000); k != api.Clear || e != api.OK {
		t.Error(k, e)
	}
	for _, other := range [][]api.Source{qs, u} {
		if g, e := Gap(p, ps, q, other); g != 4000 || e != api.OK {
			t.Error(g, e)
		}
	}
	a, b := well(at(0, 0, 0), at(0, 0, 10000)), well(at(500, 0, 0), at(0, 0, 10000))
	for i, c := range []struct {
		la, lb []api.Source
		want   int64
	}{{qs, qs, 399}, {qs, u, 299}, {nil, nil, 499}, {qs, nil, 399}, {nil, qs, 399}, {qs, []api.Source{same(1, 1, at(-100, 0, 0))}, 299}, {[]api.Source{same(99, 1, s)}, []api.Source{same(99, 1, s)}, 399}, {[]api.Source{same(99, 1, s)}, qs, 299}} {
		if g, e := Gap(a, c.la, b, c.lb); g != c.want || e != api.OK {
			t.Error(i, g, e)
		}
		if g, e := Gap(b, c.lb, a, c.la); g != c.want || e != api.OK {
			t.Error(i, g, e)
		}
	}
}

func TestP1_5Known(t *testing.T) {
	a, b := well(at(0, 0, 0), at(0, 0, 10000)), well(at(500, 0, 0), at(0, 0, 10000))
	// Crossing legs, 300 apart, whose joints are far from each other.
	c, d := well(at(0, 0, 0), at(30000, 0, 40000)), well(at(30000, 300, 0), at(-30000, 0, 40000))
	s := []api.Source{same(1, 1, at(100, 0, 0))}
	for i, k := range []struct {
		a, b   api.Path
		la, lb []api.Source
		r      int64
		want   int
		e      api.Errno
	}{
		{a, b, nil, nil, 499, api.Clear, api.OK}, {a, b, nil, nil, 500, api.Touch, api.OK}, {c, d, nil, nil, 299, api.Clear, api.OK}, {c, d, nil, nil, 300, api.Open, api.OK},
		{a, b, s, s, 399, api.Clear, api.OK}, {a, b, s, s, 400, api.Open, api.OK}, {a, b, s, s, 500, api.Touch, api.OK},
		{a, a, nil, nil, 1, api.Touch, api.OK}, {a, a, s, s, 1, api.Touch, api.OK},
		{well(at(0, 0, 0)), well(at(9, 0, 0)), nil, nil, 8, api.Clear, api.OK}, {well(at(0, 0, 0)), well(at(9, 0, 0)), nil, nil, 9, api.Touch, api.OK},
		{a, b, nil, nil, 0, 0, api.ErrRange}, {a, b, nil, nil, 4001, 0, api.ErrRange}, {a, b, nil, nil, -1 << 63, 0, api.ErrRange}, {a, b, nil, nil, 4000, api.Touch, api.OK}, {a, b, nil, nil, 1, api.Clear, api.OK},
		{well(at(0, 0, 0), at(1, 2, 3)), well(at(0, 0, -1)), nil, nil, 0, 0, api.ErrForm}, {a, well(at(0, 0, -1)), make([]api.Source, 5), nil, 0, 0, api.ErrFull},
		{a, well(at(0, 0, -1)), nil, nil, 0, 0, api.ErrRange}, {a, b, nil, []api.Source{same(1, 3, at(0, 0, 0))}, 0, 0, api.ErrForm},
	} {
		if n, e := Known(k.a, k.la, k.b, k.lb, k.r); n != k.want || e != k.e {
			t.Error(i, n, e)
		}
		g, e := Gap(k.a, k.la, k.b, k.lb)
		if k.e != api.ErrRange && e != k.e || e != api.OK && g != 0 || k.want == api.Clear && g < k.r {
			t.Error(i, g, e)
		}
	}
	if g, e := Gap(c, nil, d, nil); g != 299 || e != api.OK {
		t.Error(g, e)
	}
	if g, e := Gap(a, nil, a, nil); g != 0 || e != api.OK {
		t.Error(g, e)
	}
	if g, e := Gap(a, nil, well(at(0, 0, 0)), nil); g != 4000 || e != api.OK { // no legs, so nothing is not separate
		t.Error(g, e)
	}
}

func TestP1_4Invalid(t *testing.T) {
	a, b, bad := well(at(0, 0, 0), at(0, 0, 10000)), well(at(500, 0, 0), at(0, 0, 10000)), well(at(0, 0, -1), at(0, 0, 10000))
	wrong := []api.Source{same(0, 1, at(0, 0, 0))}
	for i, c := range []struct {
		a     api.Path
		la    []api.Source
		i     int
		b     api.Path
		lb    []api.Source
		j     int
		r     int64
		touch bool
		apart bool
	}{
		{a, nil, 0, b, nil, 0, 499, false, true}, {a, nil, 0, b, nil, 0, 500, true, false}, {a, nil, 0, b, nil, 0, 1, false, true}, {a, nil, 0, b, nil, 0, 4000, true, false},
		{a, nil, 0, b, nil, 0, 0, false, false}, {a, nil, 0, b, nil, 0, 4001, false, false}, {a, nil, 0, b, nil, 0, -1 << 63, false, false},
		{a, nil, 1, b, nil, 1, 500, true, false}, {a, nil, 2, b, nil, 0, 4000, false, false}, {a, nil, 0, b, nil, -1, 499, false, false}, {a, nil, -1, b, nil, 0, 4000, false, false},
		{bad, nil, 0, b, nil, 0, 4000, false, false}, {a, nil, 0, bad, nil, 0, 4000, false, false}, {a, wrong, 0, b, nil, 0, 4000, false, false}, {a, nil, 0, b, wrong, 0, 4000, false, false},
		{bad, nil, 0, b, nil, 0, 4, false, false}, {a, nil, 0, bad, nil, 0, 4, false, false}, {a, wrong, 0, b, nil, 0, 4, false, false}, {a, nil, 0, b, wrong, 0, 4, false, false},
	} {
		if x := Touches(c.a, c.la, c.i, c.b, c.lb, c.j, c.r); x != c.touch {
			t.Error(i, "Touches", x)
		}
		if x := Separate(c.a, c.la, c.i, c.b, c.lb, c.j, c.r); x != c.apart {
			t.Error(i, "Separate", x)
		}
	}
}

// place is 1,000,000 times the possible place on a leg of a survey, for coefficients in thousandths by ID, and a part of the leg in thousandths.
func place(p api.Path, l []api.Source, leg int, c [100]int64, part int64) vec {
	var own []int64
	for _, s := range l {
		own = append(own, c[s.ID])
	}
	x, _ := Actual(p, l, own, leg)
	y, _ := Actual(p, l, own, leg+1)
	return vec(x).times(1000 - part).plus(vec(y).times(part))
}

// TestP1_11 checks with random errors that places of separate legs stay apart, and that nearly touching ones are found where the zonotope says that they are.
func TestP1_11(t *testing.T) {
	roll := dice(11)
	apart := 0
	for range 300 {
		a, b := randomPath(roll, 2), randomPath(roll, 2)
		la, lb := randomSources(roll, 2, 1, 2), randomSources(roll, 2, 2, 2)
		for leg := range 4 {
			i, j := leg/2, leg%2
			r := legsClearance(survey{a, la}, i, survey{b, lb}, j)
			if r > 0 {
				apart++
			}
			for range 40 {
				var c [100]int64
				for id := range 4 {
					c[id] = roll(3)*1000 - 1000
				}
				far := place(a, la, i, c, roll(11)*100).minus(place(b, lb, j, c, roll(11)*100))
				if far.near(r * 1000000) {
					t.Fatal(far, r)
				}
			}
		}
	}
	if apart < 100 {
		t.Error("too few are apart", apart)
	}
}

// TestP1_11Reached checks joints whose zonotope has all its corners among the errors: the least distance over a fine grid of errors is the clearance.
func TestP1_11Reached(t *testing.T) {
	a, b := well(at(0, 0, 0), at(0, 0, 10000)), well(at(700, 260, 100), at(0, 0, 10000))
	la := []api.Source{same(1, 1, at(100, 50, 0)), same(2, 1, at(-30, 70, 10))}
	lb := []api.Source{same(2, 1, at(10, -10, 0)), same(3, 1, at(0, 60, -90))}
	least := int64(1 << 40)
	for n := range int64(21 * 21 * 21) {
		c := [100]int64{1: n%21*100 - 1000, 2: n/21%21*100 - 1000, 3: n/441*100 - 1000}
		x, _ := Actual(a, la, []int64{c[1], c[2]}, 1)
		y, _ := Actual(b, lb, []int64{c[2], c[3]}, 1)
		far := vec(x).minus(vec(y)).abs()
		least = min(least, max(far.X, far.Y, far.Z))
	}
	r := (least + 999) / 1000
	if !Touches(a, la, 1, b, lb, 1, r) || Touches(a, la, 1, b, lb, 1, r-1) && least%1000 == 0 {
		t.Error(least)
	}
	if Touches(a, la, 1, b, lb, 1, r-10) {
		t.Error("touches farther than a grid of tenths allows", least)
	}
}

func TestP1_12(t *testing.T) {
	roll := dice(12)
	kinds := map[int]int{}
	for range 100 {
		a, b := randomPath(roll, 2), randomPath(roll, 3)
		la, lb := randomSources(roll, 2, 1, 2), randomSources(roll, 2, 2, 3)
		g, _ := Gap(a, la, b, lb)
		if h, _ := Gap(b, lb, a, la); h != g {
			t.Fatal("not symmetric", g, h)
		}
		if h, _ := Gap(a, la[:1], b, lb[1:]); h < g { // without the source 2, which both have
			t.Fatal("fewer sources", g, h)
		}
		if h, _ := Gap(a, nil, b, nil); h < g {
			t.Fatal("without sources", g, h)
		}
		all := func(r int64) bool {
			for n := range 6 {
				if !Separate(a, la, n/3, b, lb, n%3, r) {
					return false
				}
			}
			return true
		}
		if g > 0 && !all(g) || g < 4000 && all(g+1) || g > 1 && !all(g-1) {
			t.Fatal("Gap is not where Separate ends", g)
		}
		for _, r := range []int64{1, g, g + 1, 4000} {
			k, _ := Known(a, la, b, lb, r)
			kinds[k]++
			if k == api.Clear && r > g || k == api.Open && r <= g {
				t.Fatal(k, r, g)
			}
			if r >= 1 && r <= g && slices.ContainsFunc([]int{0, 1, 2}, func(i int) bool { return Touches(a, la, i, b, lb, i, r) }) {
				t.Fatal("joints of separate legs touch", r)
			}
		}
		if k, _ := Known(a, la, a, la, 1+roll(4000)); k != api.Touch {
			t.Fatal("a path does not touch itself")
		}
	}
	if kinds[api.Clear] == 0 || kinds[api.Touch] == 0 || kinds[api.Open] == 0 {
		t.Error(kinds)
	}
}

// TestP1_14 moves paths, and turns them by exchanged axes.
func TestP1_14(t *testing.T) {
	roll := dice(14)
	for range 40 {
		a, b := randomPath(roll, 2), randomPath(roll, 2)
		la, lb := randomSources(roll, 2, 1, 2), randomSources(roll, 2, 2, 2)
		move := vec{roll(1000), -roll(1000), roll(1000)}
		c, d := a, b
		c.From, d.From = api.Vec(vec(a.From).plus(move)), api.Vec(vec(b.From).plus(move))
		g, _ := Gap(a, la, b, lb)
		if h, _ := Gap(c, la, d, lb); g != h || Length(a) != Length(c) || Steepest(a) != Steepest(c) {
			t.Fatal(g, h)
		}
	}
}
