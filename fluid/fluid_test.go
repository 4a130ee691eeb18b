package fluid

import (
	"math/big"
	"slices"
	"testing"

	"moonpool/api"
	"moonpool/earth"
)

func seg(long, rise, area, gap int64) api.Seg {
	return api.Seg{Long: long, Rise: rise, Area: area, Gap: gap}
}

func hole(l ...api.Seg) api.Hole { return api.Hole{Segs: l} }

// example is the hole H of the chapter.
func example() api.Hole { return hole(seg(1000, 800, 300, 50), seg(2000, 2000, 400, 60)) }

// column makes slugs of pairs of weight and volume.
func column(n ...int64) []api.Slug {
	var l []api.Slug
	for i := 0; i < len(n); i += 2 {
		l = append(l, api.Slug{Weight: n[i], Volume: n[i+1]})
	}
	return l
}

func span(lo, hi int64) api.Range { return api.Range{Lo: lo, Hi: hi} }

// dice returns numbers that look random: the same ones each time.
func dice(seed uint64) func(n int64) int64 {
	return func(n int64) int64 {
		seed = seed*6364136223846793005 + 1442695040888963407
		return int64(seed>>33) % n
	}
}

func TestP3_1CheckHole(t *testing.T) {
	good := seg(10, 5, 3, 2)
	for i, c := range []struct {
		h api.Hole
		e api.Errno
	}{
		{example(), api.OK}, {hole(), api.ErrShort}, {hole(slices.Repeat([]api.Seg{good}, 16)...), api.OK}, {hole(slices.Repeat([]api.Seg{good}, 17)...), api.ErrFull}, {hole(make([]api.Seg, 17)...), api.ErrFull},
		{hole(seg(0, 0, 3, 2)), api.ErrRange}, {hole(seg(1, 0, 1, 1)), api.OK}, {hole(seg(1, 2, 1, 1)), api.ErrRange}, {hole(seg(1, 1, 1, 1)), api.OK}, {hole(seg(1, -1, 1, 1)), api.ErrRange},
		{hole(seg(9, 9, 0, 1)), api.ErrRange}, {hole(seg(9, 9, 5000, 200)), api.OK}, {hole(seg(9, 9, 5001, 1)), api.ErrRange}, {hole(seg(9, 9, 1, 0)), api.ErrRange}, {hole(seg(9, 9, 1, 201)), api.ErrRange},
		{hole(seg(1<<20, 0, 1, 1)), api.OK}, {hole(seg(1<<20+1, 0, 1, 1)), api.ErrLong}, {hole(seg(1<<19, 0, 1, 1), seg(1<<19+1, 0, 1, 1)), api.ErrLong}, {hole(seg(1<<19, 0, 1, 1), seg(1<<19, 0, 1, 1)), api.OK},
		{hole(seg(1<<63-1, 0, 1, 1), seg(1<<63-1, 1<<62, 1, 1)), api.ErrLong}, {hole(seg(1<<62, 0, 1, 1), seg(1<<62, 0, 1, 1), seg(1<<62, 0, 1, 1), seg(1<<62, 0, 1, 1)), api.ErrLong}, {hole(seg(1<<63-1, 0, 1, 1), seg(1, 0, 0, 1)), api.ErrRange},
	} {
		if e := CheckHole(c.h); e != c.e {
			t.Error(i, e, c.e)
		}
		if c.e != api.OK && (Volume(c.h) != 0 || Height(c.h).Knots != nil || Where(c.h, 0) != -1) {
			t.Error(i, "not valid")
		}
	}
}

func TestP3_1Places(t *testing.T) {
	h := example()
	if v := Volume(h); v != 1100000 {
		t.Error(v)
	}
	if l := Height(h); !slices.Equal(l.Knots, []api.Knot{{At: 0, V: 0}, {At: 300000, V: 800}, {At: 1100000, V: 2800}}) {
		t.Error(l)
	}
	for u, want := range map[int64]int{-1: -1, 0: 0, 299999: 0, 300000: 1, 300001: 1, 1099999: 1, 1100000: 1, 1100001: -1, -1 << 63: -1, 1<<63 - 1: -1} {
		if n := Where(h, u); n != want {
			t.Error(u, n)
		}
	}
}

func TestP3_8(t *testing.T) {
	roll := dice(38)
	for range 50 {
		h := randomHole(roll)
		l := Height(h)
		last := l.Knots[len(l.Knots)-1]
		rise := int64(0)
		for _, s := range h.Segs {
			rise += s.Rise
		}
		if earth.CheckLine(l, 1<<40, 1<<20) != api.OK || last.At != Volume(h) || last.V != rise {
			t.Fatal(l)
		}
		for i := 1; i < len(l.Knots); i++ {
			if l.Knots[i].V < l.Knots[i-1].V || Where(h, l.Knots[i-1].At) != i-1 {
				t.Fatal(l)
			}
		}
	}
}

func randomHole(roll func(int64) int64) api.Hole {
	var h api.Hole
	for range 1 + roll(4) {
		long := 1 + roll(90)
		h.Segs = append(h.Segs, seg(long, roll(long+1), 1+roll(9), 1+roll(9)))
	}
	return h
}

// randomColumn fills a hole.
func randomColumn(roll func(int64) int64, h api.Hole) []api.Slug {
	var l []api.Slug
	left := Volume(h)
	for left > 0 {
		v := min(left, 1+roll(Volume(h)))
		l = append(l, api.Slug{Weight: roll(4) * 1000, Volume: v})
		left -= v
	}
	if len(l) > api.MaxSlugs {
		return randomColumn(roll, h)
	}
	return l
}

func TestP3_2CheckColumn(t *testing.T) {
	h := hole(seg(10, 10, 10, 10))
	for i, c := range []struct {
		h api.Hole
		l []api.Slug
		e api.Errno
	}{
		{h, column(9, 100), api.OK}, {hole(), nil, api.ErrShort}, {hole(seg(1, 2, 1, 1)), nil, api.ErrRange}, {h, nil, api.ErrShort},
		{h, slices.Repeat(column(1, 4), 25), api.ErrFull}, {h, append(slices.Repeat(column(1, 4), 23), column(1, 8)...), api.OK}, {h, make([]api.Slug, 25), api.ErrFull},
		{h, column(40000, 100), api.OK}, {h, column(40001, 100), api.ErrRange}, {h, column(-1, 100), api.ErrRange}, {h, column(0, 100), api.OK}, {h, column(0, 0, 0, 100), api.ErrRange}, {h, column(0, 101, 0, -1), api.ErrRange},
		{h, column(1, 99), api.ErrShort}, {h, column(1, 101), api.ErrLong}, {h, column(1, 50, 1, 49), api.ErrShort}, {h, column(1, 50, 1, 51), api.ErrLong},
		{h, column(1, 1<<63-1, 1, 1<<63-1, 1, 102), api.ErrLong}, {h, column(1, 1<<62, 1, 1<<62, 1, 1<<62, 1, 1<<62, 1, 100), api.ErrLong},
	} {
		if e := CheckColumn(c.h, c.l); e != c.e {
			t.Error(i, e, c.e)
		}
		p, e := Press(c.h, c.l, 0, 0)
		q, f := Equivalent(c.h, c.l, 0, 0)
		if e != c.e || f != c.e || c.e != api.OK && (p != api.Range{} || q != api.Range{}) {
			t.Error(i, e, f)
		}
		if now, out, e := Pump(c.h, c.l, api.Slug{Volume: 1}); e != c.e && len(c.l) < 24 || c.e != api.OK && (now != nil || out != nil) {
			t.Error(i, e)
		}
	}
}

func TestP3_2Plain(t *testing.T) {
	for i, c := range []struct{ l, want []api.Slug }{
		{nil, nil}, {column(1, 2, 1, 3), column(1, 5)}, {column(1, 2, 2, 3, 1, 4), column(1, 2, 2, 3, 1, 4)}, {column(1, 2, 2, 0, 1, 4), column(1, 6)}, {column(2, -1, 1, 2), column(1, 2)},
		{column(-7, 2, -7, 3, 1<<62, 1), column(-7, 5, 1<<62, 1)}, {column(1, 1<<40, 1, 1<<40), column(1, 1<<41)}, {column(1, 1<<40+1), nil}, {column(1, 1, 1, 1<<40+1, 1, 1), column(1, 2)}, {column(1, -1<<63, 2, 1<<63-1), nil},
	} {
		l := slices.Clone(c.l)
		if got := Plain(c.l); !slices.Equal(got, c.want) || !slices.Equal(l, c.l) {
			t.Error(i, got)
		}
	}
}

func TestP3_3Press(t *testing.T) {
	h := example()
	for i, c := range []struct {
		l      []api.Slug
		top, u int64
		want   api.Range
		e      api.Errno
	}{
		{column(12000, 1100000), 0, 0, span(33600000, 33600000), api.OK}, {column(12000, 1100000), 0, 1100000, span(0, 0), api.OK}, {column(12000, 1100000), 0, 100, span(33588000, 33600000), api.OK},
		{column(12000, 700000, 10000, 400000), 5, 0, span(31600005, 31600005), api.OK}, {column(12000, 700000, 10000, 400000), 5, 700000, span(10000005, 10000005), api.OK},
		{column(12000, 700000, 10000, 400000), 5, 699601, span(10000005, 10012005), api.OK}, {column(12000, 700000, 10000, 400000), 5, 700001, span(9990005, 10000005), api.OK},
		{column(12000, 700001, 10000, 399999), 0, 0, span(31600000, 31602000), api.OK}, {column(10000, 700001, 12000, 399999), 0, 0, span(29998000, 30000000), api.OK},
		{column(12000, 700001, 12000, 399999), 0, 0, span(33600000, 33600000), api.OK},
		{column(0, 1100000), 1 << 36, 0, span(1<<36, 1<<36), api.OK}, {column(0, 1100000), 1<<36 + 1, 0, span(0, 0), api.ErrRange}, {column(0, 1100000), -1, 0, span(0, 0), api.ErrRange},
		{column(0, 1100000), 0, -1, span(0, 0), api.ErrRange}, {column(0, 1100000), 0, 1100001, span(0, 0), api.ErrRange},
		// The end of an enclosure may lie below what can be: no height is known better than to 1.
		{column(0, 1099999, 40000, 1), 0, 1099999, span(0, 40000), api.OK}, {column(0, 1099998, 40000, 1, 0, 1), 0, 1099998, span(-40000, 40000), api.OK},
	} {
		if p, e := Press(h, c.l, c.top, c.u); p != c.want || e != c.e {
			t.Error(i, p, e)
		}
	}
}

func TestP3_3Equivalent(t *testing.T) {
	h := example()
	for i, c := range []struct {
		l      []api.Slug
		top, u int64
		want   api.Range
		e      api.Errno
	}{
		{column(12000, 1100000), 0, 0, span(12000, 12000), api.OK}, {column(12000, 1100000), 1, 0, span(12000, 12001), api.OK}, {column(12000, 1100000), -1, 0, span(0, 0), api.ErrRange}, {column(12000, 1100000), 0, 1100001, span(0, 0), api.ErrRange},
		{column(12000, 1100000), 0, 1100000, span(0, 0), api.ErrRange}, {column(12000, 1100000), 7, 1099999, span(7, 12007), api.OK}, {column(12000, 1100000), 0, 1099500, span(6000, 24000), api.OK},
		{column(0, 1099998, 40000, 1, 0, 1), 0, 1099998, span(0, 40000), api.OK}, {column(0, 1100000), 0, 0, span(0, 0), api.OK},
	} {
		if p, e := Equivalent(h, c.l, c.top, c.u); p != c.want || e != c.e {
			t.Error(i, p, e)
		}
	}
	flat := hole(seg(10, 0, 10, 10))
	if _, e := Equivalent(flat, column(1, 100), 0, 0); e != api.ErrRange {
		t.Error(e)
	}
}

// height is the exact height at a place.
func height(h api.Hole, u int64) *big.Rat {
	sum := new(big.Rat)
	for _, s := range h.Segs {
		v := min(u, s.Long*s.Area)
		sum.Add(sum, big.NewRat(v*s.Rise, s.Long*s.Area))
		u -= v
	}
	return sum
}

// TestP3_9 compares pressures with exact ones.
func TestP3_9(t *testing.T) {
	roll := dice(39)
	for range 80 {
		h := randomHole(roll)
		l := randomColumn(roll, h)
		before := span(1<<62, 1<<62)
		slug, border := 0, int64(0)
		for u := int64(0); u <= Volume(h); u++ {
			exact := big.NewRat(77, 1)
			low := int64(0)
			whole := height(h, u).IsInt()
			for _, s := range l {
				high := low + s.Volume
				rise := new(big.Rat).Sub(height(h, max(u, high)), height(h, max(u, low)))
				exact.Add(exact, rise.Mul(rise, big.NewRat(s.Weight, 1)))
				low = high
				whole = whole && height(h, low).IsInt()
			}
			p, e := Press(h, l, 77, u)
			if e != api.OK || big.NewRat(p.Lo, 1).Cmp(exact) > 0 || big.NewRat(p.Hi, 1).Cmp(exact) < 0 || whole && p.Lo != p.Hi {
				t.Fatal(h, l, u, p, exact, e)
			}
			if q, _ := Press(h, l, 80, u); q != span(p.Lo+3, p.Hi+3) {
				t.Fatal(q, p)
			}
			for slug < len(l)-1 && u >= border+l[slug].Volume {
				border += l[slug].Volume
				slug++
				before = span(1<<62, 1<<62)
			}
			if p.Lo > before.Lo || p.Hi > before.Hi {
				t.Fatal("a pressure falls downwards", u, p, before)
			}
			before = p
		}
	}
}

func TestP3_4Pump(t *testing.T) {
	h := example()
	small := hole(seg(100, 100, 1, 1))
	full := slices.Repeat(column(1, 4, 2, 4), 12)
	full[23].Volume = 8
	for i, c := range []struct {
		h        api.Hole
		l        []api.Slug
		s        api.Slug
		now, out []api.Slug
		e        api.Errno
	}{
		{h, column(12000, 1100000), api.Slug{Weight: 15000, Volume: 400000}, column(15000, 400000, 12000, 700000), column(12000, 400000), api.OK},
		{h, column(12000, 1100000), api.Slug{Weight: 12000, Volume: 400000}, column(12000, 1100000), column(12000, 400000), api.OK},
		{h, column(1, 300000, 2, 800000), api.Slug{Weight: 0, Volume: 1000000}, column(0, 1000000, 1, 100000), column(1, 200000, 2, 800000), api.OK},
		{h, column(1, 300000, 2, 800000), api.Slug{Weight: 0, Volume: 1100000}, column(0, 1100000), column(1, 300000, 2, 800000), api.OK},
		{h, column(1, 300000, 2, 400000, 2, 400000), api.Slug{Weight: 40000, Volume: 1}, column(40000, 1, 1, 300000, 2, 799999), column(2, 1), api.OK},
		{h, column(1, 1100000), api.Slug{Weight: 1, Volume: 1100001}, nil, nil, api.ErrRange}, {h, column(1, 1100000), api.Slug{Weight: 1, Volume: 0}, nil, nil, api.ErrRange}, {h, column(1, 1100000), api.Slug{Weight: -1, Volume: 1}, nil, nil, api.ErrRange}, {h, column(1, 1100000), api.Slug{Weight: 40001, Volume: 1}, nil, nil, api.ErrRange},
		{h, column(1, 1100000), api.Slug{Weight: 1, Volume: 1<<63 - 1}, nil, nil, api.ErrRange}, {h, column(1, 1100000), api.Slug{Weight: 1, Volume: -1 << 63}, nil, nil, api.ErrRange},
		{small, full, api.Slug{Weight: 3, Volume: 1}, nil, nil, api.ErrFull}, {small, full, api.Slug{Weight: 3, Volume: 7}, nil, nil, api.ErrFull},
		{small, full, api.Slug{Weight: 3, Volume: 8}, append(column(3, 8), full[:23]...), column(2, 8), api.OK}, {small, full, api.Slug{Weight: 1, Volume: 7}, append(append(column(1, 11), full[1:23]...), column(2, 1)...), column(2, 7), api.OK},
	} {
		l := slices.Clone(c.l)
		now, out, e := Pump(c.h, c.l, c.s)
		if e != c.e || !slices.Equal(now, c.now) || !slices.Equal(out, c.out) || !slices.Equal(l, c.l) {
			t.Error(i, now, out, e)
		}
	}
}

func TestP3_10(t *testing.T) {
	roll := dice(310)
	for range 300 {
		h := randomHole(roll)
		l := randomColumn(roll, h)
		v := 1 + roll(Volume(h))
		now, out, e := Pump(h, l, api.Slug{Weight: 5, Volume: v})
		if e == api.ErrFull {
			continue
		}
		sum := int64(0)
		for _, s := range out {
			sum += s.Volume
		}
		if e != api.OK || sum != v || CheckColumn(h, now) != api.OK || !slices.Equal(now, Plain(now)) || !slices.Equal(out, Plain(out)) {
			t.Fatal(now, out, e)
		}
		a := 1 + roll(v)
		if a == v {
			continue
		}
		x, _, _ := Pump(h, l, api.Slug{Weight: 5, Volume: a})
		x, _, _ = Pump(h, x, api.Slug{Weight: 5, Volume: v - a})
		y, _, _ := Pump(h, l, api.Slug{Weight: 5, Volume: v - a})
		y, _, _ = Pump(h, y, api.Slug{Weight: 5, Volume: a})
		if !slices.Equal(x, y) || !slices.Equal(x, now) {
			t.Fatal(x, y, now)
		}
	}
}
