package earth

import (
	"testing"

	"moonpool/api"
)

// world is an earth of the depth 40 with bounds as wide as said, and a truth that fits it.
func world(roll func(int64) int64, wide int64) (api.Earth, api.Truth) {
	e := api.Earth{Bottom: 40, GLo: roll(3), GHi: 6 + roll(4)}
	grow := func(start int64) api.Line {
		l := line(0, start)
		for at := int64(0); at < 40; {
			next := min(40, at+1+roll(15))
			start += (e.GLo + roll(e.GHi-e.GLo+1)) * (next - at)
			l.Knots = append(l.Knots, api.Knot{At: next, V: start})
			at = next
		}
		return l
	}
	t := api.Truth{Pore: grow(20 + roll(20))}
	for t.Frac = grow(40 + roll(60)); !Above(t.Frac, t.Pore); t.Frac = grow(40 + roll(60)) {
	}
	around := func(l api.Line, sign int64) api.Line {
		var out api.Line
		for _, k := range l.Knots {
			out.Knots = append(out.Knots, api.Knot{At: k.At, V: max(0, k.V+sign*roll(wide))})
		}
		return out
	}
	e.PoreLo, e.PoreHi, e.FracLo, e.FracHi = around(t.Pore, -1), around(t.Pore, 1), around(t.Frac, -1), around(t.Frac, 1)
	return e, t
}

// saying is a report of a kind that is true of a truth.
func saying(roll func(int64) int64, t api.Truth) api.Report {
	r := api.Report{Kind: int(1 + roll(4)), Z: roll(41)}
	l := t.Pore
	if r.Kind > 2 {
		l = t.Frac
	}
	if r.Kind%2 == 1 {
		r.P = max(0, At(l, r.Z).Lo-roll(20))
	} else {
		r.P = At(l, r.Z).Hi + roll(20)
	}
	return r
}

// TestP2_5 checks on random worlds what follows from a truth that fits: P2.5, P2.6, P2.7 and P2.11.
func TestP2_5(t *testing.T) {
	roll := dice(5)
	for range 150 {
		e, x := world(roll, 25)
		for range 5 {
			if !Fits(e, x) {
				t.Fatal("does not fit", e, x)
			}
			if Conflicts(e) != nil {
				t.Fatal("P2.6", e)
			}
			more, err := Add(e, saying(roll, x))
			if err != api.OK {
				t.Fatal(err)
			}
			for z := range int64(41) {
				p, f, w := Pore(e, z), Frac(e, z), Window(e, z)
				pore, frac := At(x.Pore, z), At(x.Frac, z)
				if pore.Lo < p.Lo || pore.Hi > p.Hi || frac.Lo < f.Lo || frac.Hi > f.Hi {
					t.Fatal("P2.5", z, pore, p, frac, f)
				}
				if w.Lo <= w.Hi && (w.Lo < pore.Hi || w.Hi > frac.Lo) {
					t.Fatal("P2.5, the window", z, w, pore, frac)
				}
				if q, g := Pore(more, z), Frac(more, z); q.Lo < p.Lo || q.Hi > p.Hi || g.Lo < f.Lo || g.Hi > f.Hi {
					t.Fatal("P2.7", z, p, q, f, g)
				}
			}
			e = more
		}
	}
}

// TestP2_8 checks conflicts of reports of two different truths.
func TestP2_8(t *testing.T) {
	roll := dice(8)
	pairs := 0
	for range 100 {
		e, x := world(roll, 200)
		_, y := world(roll, 200)
		for range 5 {
			e.Reports = append(e.Reports, saying(roll, x), saying(roll, y))
		}
		all := Conflicts(e)
		for _, set := range all {
			if len(set) == 0 || len(set) > 2 || !contradicts(with(e, set)) {
				t.Fatal(set)
			}
			for i := range set {
				if contradicts(with(e, append(append([]int{}, set[:i]...), set[i+1:]...))) {
					t.Fatal("a report is not needed", set)
				}
			}
			pairs += len(set) - 1
		}
		left := e
		left.Reports = nil
	reports:
		for i, r := range e.Reports {
			for _, set := range all {
				if set[0] == i {
					continue reports
				}
			}
			left.Reports = append(left.Reports, r)
		}
		if contradicts(left) || contradicts(e) != (len(all) > 0) {
			t.Fatal("without one report of each conflict it still contradicts itself")
		}
	}
	if pairs < 20 {
		t.Error("too few pairs", pairs)
	}
}

func TestP2_11(t *testing.T) {
	roll := dice(11)
	for range 200 {
		e, x := world(roll, 25)
		for range 3 {
			e.Reports = append(e.Reports, saying(roll, x))
		}
		slow := grows(e.PoreHi, -1<<20, e.GHi) && grows(e.FracHi, -1<<20, e.GHi)
		rising := grows(e.PoreLo, 0, 1<<20) && grows(e.FracLo, 0, 1<<20)
		for z := range int64(40) {
			p, q, f, g := Pore(e, z), Pore(e, z+1), Frac(e, z), Frac(e, z+1)
			if slow && (q.Hi > p.Hi+e.GHi || g.Hi > f.Hi+e.GHi) || rising && (q.Lo < p.Lo || g.Lo < f.Lo) {
				t.Fatal(z, p, q, f, g)
			}
		}
	}
}

func TestP2_3Kinds(t *testing.T) {
	if influx != api.ReportInflux || dry != api.ReportDry || held != api.ReportHeld || leak != api.ReportLeak {
		t.Error("kinds differ from those of package api")
	}
}
