package earth

import (
	"slices"
	"testing"

	"moonpool/api"
)

// line makes a line of pairs of At and V.
func line(n ...int64) api.Line {
	var l api.Line
	for i := 0; i < len(n); i += 2 {
		l.Knots = append(l.Knots, api.Knot{At: n[i], V: n[i+1]})
	}
	return l
}

// many is a right line with n knots.
func many(n int64) api.Line {
	var l api.Line
	for i := range n {
		l.Knots = append(l.Knots, api.Knot{At: i, V: i})
	}
	return l
}

func TestP2_1CheckLine(t *testing.T) {
	l := line(0, 100, 10, 200, 30, 100)
	for i, c := range []struct {
		l     api.Line
		at, v int64
		e     api.Errno
	}{
		{l, 30, 200, api.OK}, {l, 29, 200, api.ErrRange}, {l, 30, 199, api.ErrRange}, {line(), 1, 1, api.ErrShort}, {line(5, 1, 5, 2), 9, 9, api.ErrOrder}, {line(5, 1, 4, 2), 9, 9, api.ErrOrder},
		{line(), -1, 1, api.ErrRange}, {line(), 1, -1, api.ErrRange}, {line(), 1<<40 + 1, 1, api.ErrRange}, {line(), 1, 1<<36 + 1, api.ErrRange},
		{line(0, 0), 0, 0, api.OK}, {line(1<<40, 1<<36), 1 << 40, 1 << 36, api.OK}, {line(-1, 0), 9, 9, api.ErrRange}, {line(0, -1), 9, 9, api.ErrRange},
		{many(24), 30, 30, api.OK}, {many(25), 30, 30, api.ErrFull}, {many(25), 3, 3, api.ErrFull},
		{line(5, 1, 5, 2, 99, 0), 9, 9, api.ErrOrder}, {line(5, 1, 99, 2, 5, 0), 9, 9, api.ErrRange}, {line(5, 1, 4, 99), 9, 9, api.ErrRange}, // knot by knot
		{line(-1<<63, 1<<63-1), 9, 9, api.ErrRange},
	} {
		if e := CheckLine(c.l, c.at, c.v); e != c.e {
			t.Error(i, e, c.e)
		}
	}
}

func TestP2_2At(t *testing.T) {
	l := line(0, 100, 10, 200, 30, 100)
	for i, c := range []struct {
		l  api.Line
		x  int64
		lo int64
		hi int64
	}{
		{l, -5, 100, 100}, {l, 0, 100, 100}, {l, 5, 150, 150}, {l, 10, 200, 200}, {l, 13, 185, 185}, {l, 11, 195, 195}, {l, 29, 105, 105}, {l, 30, 100, 100}, {l, 99, 100, 100},
		{l, -1 << 63, 100, 100}, {l, 1<<63 - 1, 100, 100}, {line(0, 0, 3, 10), 1, 3, 4}, {line(0, 10, 3, 0), 1, 6, 7}, {line(7, 9), 7, 9, 9}, {line(7, 9), 0, 9, 9},
		{line(0, 0, 1<<20, 1<<36-1), 1<<20 - 1, 1<<36 - 1<<16 - 1, 1<<36 - 1<<16}, {line(0, 1<<20, 1<<40, 0), 1<<40 - 1, 0, 1},
		{line(), 0, 0, 0}, {line(5, 1, 5, 2), 5, 0, 0}, {line(0, 1<<20+1, 1<<40, 1), 0, 0, 0}, {line(0, 1<<36+1), 0, 0, 0}, {line(1<<20, 1<<36), 0, 1 << 36, 1 << 36}, {line(1<<20+1, 1<<36), 0, 0, 0}, {many(25), 3, 0, 0},
	} {
		if r := At(c.l, c.x); r != (api.Range{Lo: c.lo, Hi: c.hi}) {
			t.Error(i, r)
		}
	}
}

func TestP2_2LeastMost(t *testing.T) {
	l := line(0, 100, 10, 200, 30, 100)
	thirds := line(0, 0, 3, 10, 6, 0)
	for i, c := range []struct {
		l           api.Line
		from, to    int64
		least, most api.Range
	}{
		{l, 5, 15, api.Range{Lo: 150, Hi: 150}, api.Range{Lo: 200, Hi: 200}}, {l, 0, 40, api.Range{Lo: 100, Hi: 100}, api.Range{Lo: 200, Hi: 200}},
		{l, 11, 12, api.Range{Lo: 190, Hi: 190}, api.Range{Lo: 195, Hi: 195}}, {l, 10, 10, api.Range{Lo: 200, Hi: 200}, api.Range{Lo: 200, Hi: 200}},
		{l, -1 << 63, 1<<63 - 1, api.Range{Lo: 100, Hi: 100}, api.Range{Lo: 200, Hi: 200}}, {l, -9, -5, api.Range{Lo: 100, Hi: 100}, api.Range{Lo: 100, Hi: 100}},
		{thirds, 1, 2, api.Range{Lo: 3, Hi: 4}, api.Range{Lo: 6, Hi: 7}}, {thirds, 2, 5, api.Range{Lo: 3, Hi: 4}, api.Range{Lo: 10, Hi: 10}},
		{l, 6, 5, api.Range{}, api.Range{}}, {line(), 0, 1, api.Range{}, api.Range{}}, {line(3, 3, 2, 2), 0, 1, api.Range{}, api.Range{}},
	} {
		if a, b := Least(c.l, c.from, c.to), Most(c.l, c.from, c.to); a != c.least || b != c.most {
			t.Error(i, a, b)
		}
	}
}

func TestP2_2Above(t *testing.T) {
	l := line(0, 100, 10, 200, 30, 100)
	for i, c := range []struct {
		a, b api.Line
		ok   bool
	}{
		{l, line(0, 100), true}, {l, line(0, 101), false}, {line(0, 200), l, true}, {line(0, 199), l, false}, {l, l, true},
		{line(0, 0, 3, 10), line(1, 3), false}, {line(0, 0, 3, 10), line(0, 0, 1, 3, 2, 6, 3, 10), true}, {line(0, 0, 3, 10), line(0, 0, 1, 4, 3, 10), false},
		{line(0, 0, 1, 4, 3, 10), line(0, 0, 3, 10), true}, {line(0, 0, 1, 3, 3, 10), line(0, 0, 3, 10), false},
		{line(0, 5, 10, 5, 20, 0), line(0, 5), false}, {line(5, 0, 10, 5), line(7, 1), false}, // beyond the last knot, before the first one
		{line(1<<40, 7), line(1<<20, 7), true}, {line(1<<40, 7), line(1<<20, 1<<30), false},
		{line(), l, false}, {l, line(), false}, {l, line(0, 1, 0, 1), false}, {line(0, 1<<36+1), l, false},
	} {
		if ok := Above(c.a, c.b); ok != c.ok {
			t.Error(i, ok)
		}
	}
}

// dice returns numbers that look random: the same ones each time.
func dice(seed uint64) func(n int64) int64 {
	return func(n int64) int64 {
		seed = seed*6364136223846793005 + 1442695040888963407
		return int64(seed>>33) % n
	}
}

// randomLine is a right line with knots up to 40, and values up to 30.
func randomLine(roll func(int64) int64) api.Line {
	var l api.Line
	for at := roll(10); at <= 40; at += 1 + roll(12) {
		l.Knots = append(l.Knots, api.Knot{At: at, V: roll(31)})
	}
	return l
}

func TestP2_9(t *testing.T) {
	roll := dice(9)
	for range 200 {
		l := randomLine(roll)
		from := roll(60) - 10
		to := from + roll(30)
		least, most := At(l, from), At(l, from)
		for x := from; x <= to; x++ {
			v := At(l, x)
			least = api.Range{Lo: min(least.Lo, v.Lo), Hi: min(least.Hi, v.Hi)}
			most = api.Range{Lo: max(most.Lo, v.Lo), Hi: max(most.Hi, v.Hi)}
		}
		if a, b := Least(l, from, to), Most(l, from, to); a != least || b != most {
			t.Fatal(l, from, to, a, b)
		}
		if wide := Least(l, from-3, to+5); wide.Lo > least.Lo || wide.Hi > least.Hi {
			t.Fatal("a greater part has a greater Least")
		}
	}
}

func TestP2_10(t *testing.T) {
	roll := dice(210)
	yes := 0
	for range 500 {
		a, b, c := randomLine(roll), randomLine(roll), randomLine(roll)
		for i := range a.Knots {
			a.Knots[i].V += 15
		}
		if !Above(a, a) || Above(a, b) && Above(b, c) && !Above(a, c) {
			t.Fatal(a, b, c)
		}
		exact := true
		for i := range int64(60 * 64) { // compared at all 64ths, without enclosures
			exact = exact && !below(a, b, i)
		}
		if Above(a, b) && !exact || !Above(a, b) && exact && len(a.Knots) > 0 {
			t.Fatal(a, b, exact)
		}
		if Above(a, b) {
			yes++
		}
		// A knot more on the line changes no value.
		if d := split(b); !Above(d, b) || !Above(b, d) {
			t.Fatal(b, d)
		}
	}
	if yes < 50 {
		t.Error("too few lines are above each other", yes)
	}
}

// fraction is the value at n / 64 as a fraction.
func fraction(l api.Line, n int64) (num, den int64) {
	k := l.Knots
	if n <= 64*k[0].At {
		return k[0].V, 1
	}
	for i := 1; i < len(k); i++ {
		if n <= 64*k[i].At {
			long := 64 * (k[i].At - k[i-1].At)
			return k[i-1].V*long + (k[i].V-k[i-1].V)*(n-64*k[i-1].At), long
		}
	}
	return k[len(k)-1].V, 1
}

// below reports whether a is less than b at n / 64.
func below(a, b api.Line, n int64) bool {
	p, q := fraction(a, n)
	r, s := fraction(b, n)
	return p*s < r*q
}

// split adds a knot where the line has a whole value, if it finds one.
func split(l api.Line) api.Line {
	for i := 1; i < len(l.Knots); i++ {
		a, b := l.Knots[i-1], l.Knots[i]
		for x := a.At + 1; x < b.At; x++ {
			if v := At(l, x); v.Lo == v.Hi {
				return api.Line{Knots: slices.Insert(slices.Clone(l.Knots), i, api.Knot{At: x, V: v.Lo})}
			}
		}
	}
	return l
}
