package earth

import (
	"slices"
	"testing"

	"moonpool/api"
)

// example is the earth E of the chapter.
func example() api.Earth {
	return api.Earth{Bottom: 100000, PoreLo: line(0, 0, 100000, 900000000), PoreHi: line(0, 0, 100000, 1200000000), FracLo: line(0, 0, 100000, 1500000000), FracHi: line(0, 0, 100000, 2000000000), GLo: 0, GHi: 30000}
}

// told is the example with reports.
func told(l ...api.Report) api.Earth {
	e := example()
	e.Reports = l
	return e
}

func report(kind int, z, p int64) api.Report { return api.Report{Kind: kind, Z: z, P: p} }

func span(lo, hi int64) api.Range { return api.Range{Lo: lo, Hi: hi} }

func TestP2_3Check(t *testing.T) {
	for i, c := range []struct {
		change func(e *api.Earth)
		e      api.Errno
	}{
		{func(e *api.Earth) {}, api.OK}, {func(e *api.Earth) { e.Bottom = 0 }, api.ErrRange}, {func(e *api.Earth) { e.Bottom = 1<<20 + 1 }, api.ErrRange}, {func(e *api.Earth) { e.Bottom = 1 << 20 }, api.OK}, {func(e *api.Earth) { e.Bottom = 1 }, api.OK},
		{func(e *api.Earth) { e.GLo = -1 }, api.ErrRange}, {func(e *api.Earth) { e.GLo = 30001 }, api.ErrRange}, {func(e *api.Earth) { e.GLo = 30000 }, api.OK}, {func(e *api.Earth) { e.GHi = 40001 }, api.ErrRange}, {func(e *api.Earth) { e.GHi = 40000 }, api.OK}, {func(e *api.Earth) { e.GHi = -1 }, api.ErrRange}, {func(e *api.Earth) { e.GHi = 0 }, api.OK},
		{func(e *api.Earth) { e.GHi, e.PoreLo = -1, line() }, api.ErrRange},
		{func(e *api.Earth) { e.PoreLo, e.PoreHi = line(), line(3, 3, 3, 3) }, api.ErrShort}, {func(e *api.Earth) { e.PoreHi, e.FracLo = line(3, 3, 3, 3), line() }, api.ErrOrder},
		{func(e *api.Earth) { e.FracLo, e.FracHi = many(25), line() }, api.ErrFull}, {func(e *api.Earth) { e.FracHi = line(1<<20+1, 0) }, api.ErrRange}, {func(e *api.Earth) { e.FracHi, e.PoreHi = line(0, 1<<36+1), line(0, 0) }, api.ErrRange},
		{func(e *api.Earth) { e.PoreHi.Knots[1].V = 899999999 }, api.ErrClash}, {func(e *api.Earth) { e.PoreHi.Knots[1].V = 900000000 }, api.OK}, {func(e *api.Earth) { e.FracHi.Knots[1].V = 1499999999 }, api.ErrClash},
		{func(e *api.Earth) { e.FracLo, e.FracHi = line(0, 0), line(0, 0, 100000, 899999999) }, api.ErrClash}, {func(e *api.Earth) { e.FracLo, e.FracHi = line(0, 0), line(0, 0, 100000, 900000000) }, api.OK},
		{func(e *api.Earth) { e.PoreLo = line(0, 0, 200000, 1200000001) }, api.ErrClash}, // beyond the bottom
		{func(e *api.Earth) { e.PoreHi, e.Reports = line(0, 0), make([]api.Report, 25) }, api.ErrClash},
		{func(e *api.Earth) { e.Reports = make([]api.Report, 25) }, api.ErrFull}, {func(e *api.Earth) { e.Reports = slices.Repeat([]api.Report{report(3, 0, 0)}, 24) }, api.OK},
		{func(e *api.Earth) { e.Reports = []api.Report{report(0, 0, 0)} }, api.ErrKind}, {func(e *api.Earth) { e.Reports = []api.Report{report(5, -1, 0)} }, api.ErrKind},
		{func(e *api.Earth) { e.Reports = []api.Report{report(1, 0, 0), report(4, 100000, 1<<36)} }, api.OK}, {func(e *api.Earth) { e.Reports = []api.Report{report(1, -1, 0), report(5, 0, 0)} }, api.ErrRange},
		{func(e *api.Earth) { e.Reports = []api.Report{report(2, 100001, 0)} }, api.ErrRange}, {func(e *api.Earth) { e.Reports = []api.Report{report(2, 0, -1)} }, api.ErrRange}, {func(e *api.Earth) { e.Reports = []api.Report{report(2, 0, 1<<36+1)} }, api.ErrRange},
	} {
		e := example()
		c.change(&e)
		if err := Check(e); err != c.e {
			t.Error(i, err, c.e)
		}
		empty := Depths(e) == nil && Pore(e, 1) == api.Range{} && Frac(e, 1) == api.Range{} && Window(e, 1) == api.Range{} && Conflicts(e) == nil && !Fits(e, truth(e.Bottom))
		if c.e != api.OK && !empty {
			t.Error(i, "not valid")
		}
		if _, err := Add(e, report(1, 0, 0)); err != c.e && !(len(e.Reports) == 24 && err == api.ErrFull) {
			t.Error(i, err)
		}
	}
}

// truth is one that fits the example, if that is its bottom.
func truth(bottom int64) api.Truth {
	return api.Truth{Pore: line(0, 0, bottom, bottom*10000), Frac: line(0, 0, bottom, bottom*17000)}
}

func TestP2_3CheckTruth(t *testing.T) {
	for i, c := range []struct {
		pore, frac api.Line
		bottom     int64
		e          api.Errno
	}{
		{line(0, 0, 50, 100), line(0, 5, 50, 100), 50, api.OK}, {line(), line(0, 5, 0, 0), 50, api.ErrShort}, {line(0, 5, 50, 5), line(0, 5, 0, 0), 50, api.ErrOrder}, {line(0, 5, 9, 5), line(0, -1), 50, api.ErrRange},
		{line(1, 0, 50, 100), line(0, 5, 50, 100), 50, api.ErrForm}, {line(0, 0, 49, 100), line(0, 5, 50, 100), 50, api.ErrForm}, {line(0, 0, 51, 100), line(0, 5, 51, 100), 50, api.ErrForm},
		{line(0, 0, 50, 100), line(1, 5, 50, 100), 50, api.ErrForm}, {line(0, 0, 50, 100), line(0, 5, 20, 100), 50, api.ErrForm}, {line(0, 0), line(0, 5), 0, api.OK}, {line(0, 0), line(0, 5), -1, api.ErrForm},
		{line(0, 0, 1<<20+1, 9), line(0, 5), 1<<20 + 1, api.ErrRange}, {line(0, 0, 1<<20, 1<<36), line(0, 5, 1<<20, 1<<36), 1 << 20, api.OK}, {line(0, 0, 50, 1<<36+1), line(0, 5, 50, 100), 50, api.ErrRange},
	} {
		if e := CheckTruth(api.Truth{Pore: c.pore, Frac: c.frac}, c.bottom); e != c.e {
			t.Error(i, e, c.e)
		}
	}
}

func TestP2_3Ranges(t *testing.T) {
	for i, c := range []struct {
		e          api.Earth
		z          int64
		pore, frac api.Range
	}{
		{told(), 50000, span(450000000, 600000000), span(750000000, 1000000000)}, {told(), 0, span(0, 0), span(0, 0)}, {told(), 100000, span(900000000, 1200000000), span(1500000000, 2000000000)},
		{told(), -1, span(0, 0), span(0, 0)}, {told(), 100001, span(0, 0), span(0, 0)}, {told(), 1<<63 - 1, span(0, 0), span(0, 0)},
		{told(report(api.ReportDry, 40000, 400000000)), 50000, span(450000000, 600000000), span(750000000, 1000000000)},
		{told(report(api.ReportDry, 40000, 380000000)), 40000, span(360000000, 380000000), span(600000000, 800000000)},
		{told(report(api.ReportDry, 40000, 380000000)), 30000, span(270000000, 360000000), span(450000000, 600000000)},
		{told(report(api.ReportDry, 40000, 350000000)), 30000, span(270000000, 350000000), span(450000000, 600000000)},
		{told(report(api.ReportDry, 40000, 380000000)), 41000, span(369000000, 410000000), span(615000000, 820000000)},
		{told(report(api.ReportInflux, 40000, 470000000)), 39000, span(440000000, 468000000), span(585000000, 780000000)},
		{told(report(api.ReportInflux, 40000, 470000000)), 45000, span(470000000, 540000000), span(675000000, 900000000)},
		{told(report(api.ReportInflux, 40000, 700000000)), 40000, span(700000000, 480000000), span(700000000, 800000000)}, // a contradiction; and the fracture pressure is not less
		{told(report(api.ReportHeld, 40000, 700000000)), 41000, span(369000000, 492000000), span(700000000, 820000000)},
		{told(report(api.ReportHeld, 40000, 700000000)), 39000, span(351000000, 468000000), span(670000000, 780000000)},
		{told(report(api.ReportLeak, 40000, 700000000)), 39000, span(351000000, 468000000), span(585000000, 700000000)},
		{told(report(api.ReportLeak, 40000, 460000000)), 40000, span(360000000, 460000000), span(600000000, 460000000)}, // the pore pressure is not greater
		{told(report(api.ReportLeak, 40000, 460000000)), 40500, span(364500000, 475000000), span(607500000, 475000000)},
	} {
		if p, f, w := Pore(c.e, c.z), Frac(c.e, c.z), Window(c.e, c.z); p != c.pore || f != c.frac || w != span(c.pore.Hi, c.frac.Lo) {
			t.Error(i, p, f, w)
		}
	}
	// The gradients bound from every knot down to the bottom, and from none below it.
	e := api.Earth{Bottom: 100, PoreLo: line(0, 0, 60, 500, 200, 900), PoreHi: line(0, 900, 50, 1000, 120, 1100), FracLo: line(0, 0, 80, 2000, 110, 2100), FracHi: line(0, 90000), GLo: 10, GHi: 20}
	for i, c := range []struct {
		z          int64
		pore, frac api.Range
	}{
		{0, span(0, 500), span(400, 90000)}, {20, span(200, 700), span(800, 90000)}, {55, span(550, 1008), span(1500, 90000)}, {60, span(600, 1015), span(1600, 90000)}, {100, span(1000, 1072), span(2200, 90000)},
	} {
		if p, f := Pore(e, c.z), Frac(e, c.z); p != c.pore || f != c.frac {
			t.Error(i, p, f)
		}
	}
	// The knots at the bottom count, too; and values between whole numbers are rounded outwards.
	deep := api.Earth{Bottom: 100, PoreLo: line(0, 0, 3, 10), PoreHi: line(0, 900, 100, 1000), FracLo: line(0, 20, 3, 40, 100, 50), FracHi: line(0, 90000, 100, 90001), GLo: 0, GHi: 40}
	for i, c := range []struct {
		glo, z     int64
		pore, frac api.Range
	}{
		{0, 1, span(3, 901), span(26, 90001)}, {0, 2, span(6, 902), span(33, 90001)}, {0, 100, span(10, 1000), span(50, 90001)}, {10, 50, span(500, 500), span(520, 89501)},
	} {
		deep.GLo = c.glo
		if p, f := Pore(deep, c.z), Frac(deep, c.z); p != c.pore || f != c.frac {
			t.Error(i, p, f)
		}
	}
	if d := Depths(told(report(2, 777, 5), report(1, 50, 5), report(2, 777, 6))); !slices.Equal(d, []int64{0, 50, 777, 100000}) {
		t.Error(d)
	}
	if d := Depths(e); !slices.Equal(d, []int64{0, 50, 60, 80, 100}) {
		t.Error(d)
	}
}

// fine makes a truth whose fracture pressure at 1 is a third more than 350000003, and an earth with reports.
func fine(l ...api.Report) func(e *api.Earth, t *api.Truth) {
	return func(e *api.Earth, t *api.Truth) {
		t.Frac = line(0, 350000000, 3, 350000010, 100000, 1700000000)
		e.FracHi, e.FracLo, e.Reports = line(0, 400000000, 100000, 2000000000), line(0, 0, 100000, 1500000000), l
	}
}

func TestP2_3Fits(t *testing.T) {
	good := truth(100000)
	for i, c := range []struct {
		change func(e *api.Earth, t *api.Truth)
		ok     bool
	}{
		{func(e *api.Earth, t *api.Truth) {}, true}, {func(e *api.Earth, t *api.Truth) { e.Bottom = 99999 }, false}, {func(e *api.Earth, t *api.Truth) { e.GHi = -1 }, false},
		{func(e *api.Earth, t *api.Truth) { e.GLo = 10000 }, true}, {func(e *api.Earth, t *api.Truth) { e.GLo = 10001 }, false}, {func(e *api.Earth, t *api.Truth) { e.GHi = 17000 }, true}, {func(e *api.Earth, t *api.Truth) { e.GHi = 16999 }, false},
		{func(e *api.Earth, t *api.Truth) { e.PoreLo.Knots[1].V = 1000000000 }, true}, {func(e *api.Earth, t *api.Truth) { e.PoreLo.Knots[1].V = 1000000001 }, false},
		{func(e *api.Earth, t *api.Truth) { e.PoreHi.Knots[1].V = 1000000000 }, true}, {func(e *api.Earth, t *api.Truth) { e.PoreHi.Knots[1].V = 999999999 }, false},
		{func(e *api.Earth, t *api.Truth) { e.FracLo.Knots[1].V = 1700000000 }, true}, {func(e *api.Earth, t *api.Truth) { e.FracLo.Knots[1].V = 1700000001 }, false},
		{func(e *api.Earth, t *api.Truth) { e.FracHi.Knots[1].V = 1700000000 }, true}, {func(e *api.Earth, t *api.Truth) { e.FracHi.Knots[1].V = 1699999999 }, false},
		// What an earth says of depths below its bottom does not matter, between its knots it does.
		{func(e *api.Earth, t *api.Truth) {
			e.PoreHi, e.FracHi = line(0, 0, 100000, 1200000000, 200000, 1200000000), line(0, 0, 100000, 2000000000, 100001, 1200000000)
			e.FracLo, e.PoreLo = line(0, 0, 100000, 1100000000), line(0, 0, 100000, 900000000, 110000, 1200000000)
		}, true},
		{func(e *api.Earth, t *api.Truth) { e.PoreLo = line(0, 0, 50, 500001, 100000, 900000000) }, false},
		{func(e *api.Earth, t *api.Truth) { e.PoreLo = line(0, 0, 50, 500000, 100000, 900000000) }, true},
		{func(e *api.Earth, t *api.Truth) { t.Pore = line(0, 0, 50000, 650000000, 100000, 1000000000) }, false},
		{func(e *api.Earth, t *api.Truth) {
			e.FracLo, t.Frac = line(0, 0), line(0, 0, 50000, 500000000, 100000, 1700000000)
		}, true},
		{func(e *api.Earth, t *api.Truth) {
			e.FracLo, t.Frac = line(0, 0), line(0, 0, 50000, 499999999, 100000, 1700000000)
		}, false},
		{func(e *api.Earth, t *api.Truth) { e.Reports = []api.Report{report(1, 50000, 500000000)} }, true}, {func(e *api.Earth, t *api.Truth) { e.Reports = []api.Report{report(1, 50000, 500000001)} }, false},
		{func(e *api.Earth, t *api.Truth) { e.Reports = []api.Report{report(2, 50000, 500000000)} }, true}, {func(e *api.Earth, t *api.Truth) { e.Reports = []api.Report{report(2, 50000, 499999999)} }, false},
		{func(e *api.Earth, t *api.Truth) { e.Reports = []api.Report{report(3, 50000, 850000000)} }, true}, {func(e *api.Earth, t *api.Truth) { e.Reports = []api.Report{report(3, 50000, 850000001)} }, false},
		{func(e *api.Earth, t *api.Truth) { e.Reports = []api.Report{report(4, 50000, 850000000)} }, true}, {func(e *api.Earth, t *api.Truth) { e.Reports = []api.Report{report(4, 50000, 849999999)} }, false},
		{func(e *api.Earth, t *api.Truth) {
			e.Reports = []api.Report{report(2, 50000, 1<<36), report(4, 50000, 0)}
		}, false},
		// Reports of a value between two whole numbers.
		{func(e *api.Earth, t *api.Truth) {
			t.Pore = line(0, 0, 3, 10, 100000, 1000000000)
			e.PoreHi = line(0, 10, 100000, 1200000000)
			e.PoreLo, e.Reports = line(0, 0), []api.Report{report(1, 1, 3), report(2, 1, 4)}
		}, true},
		{func(e *api.Earth, t *api.Truth) {
			t.Pore = line(0, 0, 3, 10, 100000, 1000000000)
			e.PoreHi = line(0, 10, 100000, 1200000000)
			e.PoreLo, e.Reports = line(0, 0), []api.Report{report(1, 1, 4)}
		}, false},
		{func(e *api.Earth, t *api.Truth) {
			t.Pore = line(0, 0, 3, 10, 100000, 1000000000)
			e.PoreHi = line(0, 10, 100000, 1200000000)
			e.PoreLo, e.Reports = line(0, 0), []api.Report{report(2, 1, 3)}
		}, false},
		{fine(report(3, 1, 350000003), report(4, 1, 350000004)), true}, {fine(report(3, 1, 350000004)), false}, {fine(report(4, 1, 350000003)), false},
		// Only at the surface they differ.
		{func(e *api.Earth, t *api.Truth) { e.PoreLo = line(0, 1, 1, 0, 100000, 900000000) }, false}, {func(e *api.Earth, t *api.Truth) {
			t.Pore, e.PoreHi = line(0, 3, 100000, 1000000000), line(0, 2, 1, 30000, 100000, 1200000000)
		}, false},
		{func(e *api.Earth, t *api.Truth) {
			e.FracLo, e.FracHi = line(0, 1, 1, 0, 100000, 1500000000), line(0, 1, 100000, 2000000000)
		}, false}, {func(e *api.Earth, t *api.Truth) {
			t.Frac, e.FracHi = line(0, 3, 100000, 1700000000), line(0, 2, 1, 30000, 100000, 2000000000)
		}, false},
	} {
		e, x := example(), api.Truth{Pore: Copy(api.Earth{PoreLo: good.Pore}).PoreLo, Frac: good.Frac}
		c.change(&e, &x)
		if ok := Fits(e, x); ok != c.ok {
			t.Error(i, ok, Check(e), CheckTruth(x, e.Bottom))
		}
	}
}

func TestP2_4Add(t *testing.T) {
	e := told(report(1, 5, 5))
	more, err := Add(e, report(2, 6, 7))
	if err != api.OK || !Same(more, told(report(1, 5, 5), report(2, 6, 7))) {
		t.Error(more, err)
	}
	more.Reports[0].P, more.PoreLo.Knots[0].V, more.FracHi.Knots[1].V = 99, 99, 99
	if !Same(e, told(report(1, 5, 5))) {
		t.Error("memory is shared")
	}
	if more, err := Add(e, report(9, 6, 7)); err != api.ErrKind || !Same(more, api.Earth{}) {
		t.Error(more, err)
	}
	if _, err := Add(e, report(2, 100001, 7)); err != api.ErrRange {
		t.Error(err)
	}
	full := told(slices.Repeat([]api.Report{report(3, 0, 0)}, 24)...)
	if _, err := Add(full, report(9, -1, 0)); err != api.ErrFull {
		t.Error(err)
	}
	if _, err := Add(api.Earth{}, report(9, -1, 0)); err != api.ErrRange {
		t.Error(err)
	}
}

func TestP2_4Conflicts(t *testing.T) {
	upsideDown := example()
	upsideDown.GHi = 9000 // PoreHi grows faster, so the bounds from (0, 0) fall below PoreLo
	upsideDown.PoreLo, upsideDown.PoreHi = line(0, 0, 100000, 950000000), line(0, 0, 100000, 1200000000)
	upsideDown.Reports = []api.Report{report(1, 50000, 590000000), report(2, 60000, 550000000)}
	for i, c := range []struct {
		e    api.Earth
		want [][]int
	}{
		{told(report(1, 50000, 590000000), report(2, 60000, 550000000)), [][]int{{0, 1}}}, {told(report(2, 50000, 440000000)), [][]int{{0}}}, {told(), nil},
		{told(report(1, 50000, 550000000), report(2, 60000, 550000000)), nil}, {told(report(1, 50000, 550000001), report(2, 60000, 550000000)), [][]int{{0, 1}}},
		{told(report(2, 50000, 440000000), report(2, 60000, 550000000), report(1, 50000, 590000000), report(1, 50000, 595000000), report(1, 10, 400000)), [][]int{{0}, {4}, {1, 2}, {1, 3}}},
		{told(report(3, 50000, 900000000), report(4, 50000, 899999999)), [][]int{{0, 1}}}, {told(report(3, 50000, 900000000), report(4, 51000, 900000000)), nil}, {told(report(3, 50000, 900000000), report(4, 49000, 869999999)), [][]int{{0, 1}}},
		{told(report(1, 50000, 590000000), report(4, 50000, 589000000)), [][]int{{1}}}, // less than FracLo
		{upsideDown, [][]int{{}}}, {api.Earth{}, nil},
	} {
		got := Conflicts(c.e)
		if !slices.EqualFunc(got, c.want, slices.Equal) {
			t.Error(i, got)
		}
	}
	wide := example()
	wide.FracLo = line(0, 0)
	wide.Reports = []api.Report{report(1, 50000, 590000000), report(4, 50000, 589000000)}
	if got := Conflicts(wide); !slices.EqualFunc(got, [][]int{{0, 1}}, slices.Equal) {
		t.Error(got) // the pore pressure would be above the fracture pressure
	}
}

func TestP2_4SameCopy(t *testing.T) {
	for i, change := range []func(e *api.Earth){
		func(e *api.Earth) { e.Bottom++ }, func(e *api.Earth) { e.GLo++ }, func(e *api.Earth) { e.GHi++ }, func(e *api.Earth) { e.Reports[0].P++ }, func(e *api.Earth) { e.Reports[0].Kind++ }, func(e *api.Earth) { e.Reports = nil },
		func(e *api.Earth) { e.PoreLo.Knots[0].V++ }, func(e *api.Earth) { e.PoreHi.Knots[1].At++ }, func(e *api.Earth) { e.FracLo.Knots[0].V++ }, func(e *api.Earth) { e.FracHi.Knots = e.FracHi.Knots[:1] },
	} {
		a := told(report(1, 5, 5))
		b := Copy(a)
		if !Same(a, b) || !Same(b, a) {
			t.Error(i, "a copy is not the same")
		}
		change(&b)
		if Same(a, b) || !Same(a, told(report(1, 5, 5))) {
			t.Error(i, "a change is not seen, or seen in both")
		}
	}
	odd := api.Earth{Bottom: -7, Reports: []api.Report{}, FracLo: api.Line{Knots: []api.Knot{}}}
	if !Same(odd, api.Earth{Bottom: -7}) || !Same(Copy(odd), odd) {
		t.Error("nil and empty lists differ")
	}
}
