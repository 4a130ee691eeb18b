package pipe

import (
	"slices"
	"testing"

	"moonpool/api"
)

// tube is one of the chapter's example, with this count and length.
func tube(count, long, air, steel, out int64) api.Tube {
	return api.Tube{Count: count, Len: long, Air: air, Steel: steel, Out: out, Yield: 1 << 40, Twist: 1 << 40}
}

func str(l ...api.Tube) api.String { return api.String{Tubes: l} }

// example is the string S of the chapter.
func example() api.String {
	return str(tube(10, 1000, 3000000, 100, 20), tube(60, 1000, 300000, 30, 13))
}

func v(x, y, z int64) api.Vec { return api.Vec{X: x, Y: y, Z: z} }

func well(legs ...api.Vec) api.Path { return api.Path{Legs: legs} }

// bent is the path P of the chapter.
func bent() api.Path { return well(v(0, 0, 50000), v(0, 30000, 40000)) }

func span(lo, hi int64) api.Range { return api.Range{Lo: lo, Hi: hi} }

// dice returns numbers that look random: the same ones each time.
func dice(seed uint64) func(n int64) int64 {
	return func(n int64) int64 {
		seed = seed*6364136223846793005 + 1442695040888963407
		return int64(seed>>33) % n
	}
}

func TestP4_1Check(t *testing.T) {
	good := tube(1, 100, 1, 1, 2)
	for i, c := range []struct {
		change func(t *api.Tube)
		ok     bool
	}{
		{func(t *api.Tube) {}, true}, {func(t *api.Tube) { t.Count = 0 }, false}, {func(t *api.Tube) { t.Count = 400 }, true}, {func(t *api.Tube) { t.Count = 401 }, false}, {func(t *api.Tube) { t.Len = 99 }, false}, {func(t *api.Tube) { t.Len = 4000 }, true}, {func(t *api.Tube) { t.Len = 4001 }, false},
		{func(t *api.Tube) { t.Air = 0 }, false}, {func(t *api.Tube) { t.Air = 4000000 }, true}, {func(t *api.Tube) { t.Air = 4000001 }, false}, {func(t *api.Tube) { t.Steel = 0 }, false}, {func(t *api.Tube) { t.Steel = 400 }, true}, {func(t *api.Tube) { t.Steel = 401 }, false},
		{func(t *api.Tube) { t.Out = 1 }, false}, {func(t *api.Tube) { t.Out = 90 }, true}, {func(t *api.Tube) { t.Out = 91 }, false}, {func(t *api.Tube) { t.Yield, t.Twist = 1, 1 }, true}, {func(t *api.Tube) { t.Yield = 0 }, false}, {func(t *api.Tube) { t.Yield = 1 << 42 }, true}, {func(t *api.Tube) { t.Yield = 1<<42 + 1 }, false},
		{func(t *api.Tube) { t.Twist = 0 }, false}, {func(t *api.Tube) { t.Twist = 1 << 48 }, true}, {func(t *api.Tube) { t.Twist = 1<<48 + 1 }, false}, {func(t *api.Tube) { t.Stiff = -1 }, false}, {func(t *api.Tube) { t.Stiff = 1 << 34 }, true}, {func(t *api.Tube) { t.Stiff = 1<<34 + 1 }, false},
		{func(t *api.Tube) { t.Used = -1 }, false}, {func(t *api.Tube) { t.Used = 1 << 40 }, true}, {func(t *api.Tube) { t.Used = 1<<40 + 1 }, false}, {func(t *api.Tube) { t.Count = 1<<63 - 1 }, false},
	} {
		x := good
		c.change(&x)
		if e := Check(str(good, x)); (e == api.OK) != c.ok || !c.ok && e != api.ErrRange {
			t.Error(i, e)
		}
	}
	long := tube(260, 4000, 1, 1, 2)
	for i, c := range []struct {
		s api.String
		e api.Errno
	}{
		{str(), api.ErrShort}, {str(slices.Repeat([]api.Tube{good}, 8)...), api.OK}, {str(slices.Repeat([]api.Tube{good}, 9)...), api.ErrFull}, {str(make([]api.Tube, 9)...), api.ErrFull}, {str(api.Tube{}), api.ErrRange},
		{str(long, tube(3, 2858, 1, 1, 2)), api.OK}, {str(long, tube(2, 4000, 1, 1, 2), tube(1, 576, 1, 1, 2)), api.OK}, {str(long, tube(2, 4000, 1, 1, 2), tube(1, 577, 1, 1, 2)), api.ErrLong}, {str(long, long, api.Tube{}), api.ErrRange},
	} {
		if e := Check(c.s); e != c.e {
			t.Error(i, e, c.e)
		}
		if c.e == api.OK {
			continue
		}
		_, f := Turn(c.s, well(), nil, -1)
		_, g := Drop(c.s, -1)
		if Length(c.s) != 0 || Weight(c.s, 1) != 0 || Joints(c.s) != nil || Near(c.s, -1, 1<<40) || Pieces(c.s, bent()) != nil || Fits(c.s, api.Path{From: v(0, 0, -1)}) != c.e || CheckCase(c.s, api.Case{}) != c.e || f != c.e || g != c.e {
			t.Error(i, "not valid")
		}
	}
}

func TestP4_1Weight(t *testing.T) {
	s := example()
	if Length(s) != 70000 || Wet(s.Tubes[0], 12000) != 1800000 || Weight(s, 12000) != 14400000000 || Weight(s, 0) != 48000000000 {
		t.Error(Length(s), Wet(s.Tubes[0], 12000), Weight(s, 12000))
	}
	if Weight(s, -1) != 0 || Weight(s, 40001) != 0 || Weight(s, 40000) != -10000*1000000-60000*900000 {
		t.Error(Weight(s, 40000))
	}
	for i, c := range []struct{ air, steel, mud, want int64 }{
		{1000000000, 0, 5, 1000000000}, {0, 1000000000, 1000000000, -1000000000000000000}, {1000000001, 1, 1, 0}, {5, 1000000001, 1, 0}, {5, 1, 1000000001, 0}, {-1, 1, 1, 0}, {5, -1, 1, 0}, {5, 1, -1, 0}, {-1 << 63, -1 << 63, -1 << 63, 0},
	} {
		if w := Wet(api.Tube{Air: c.air, Steel: c.steel}, c.mud); w != c.want {
			t.Error(i, w)
		}
	}
}

func TestP4_1Joints(t *testing.T) {
	s := str(tube(2, 500, 1, 1, 2))
	if l := Joints(s); !slices.Equal(l, []int64{0, 500, 1000}) {
		t.Error(l)
	}
	if l := Joints(str(tube(2, 500, 1, 1, 2), tube(3, 100, 1, 1, 2))); !slices.Equal(l, []int64{0, 500, 1000, 1100, 1200, 1300}) {
		t.Error(l)
	}
	for i, c := range []struct {
		from, to int64
		near     bool
	}{{490, 499, false}, {490, 500, true}, {500, 500, true}, {501, 999, false}, {1000, 2000, true}, {1001, 2000, false}, {-5, 0, true}, {-5, -1, false}, {600, 400, false}, {-1 << 63, 1<<63 - 1, true}} {
		if x := Near(s, c.from, c.to); x != c.near {
			t.Error(i, x)
		}
	}
}

func TestP4_6Add(t *testing.T) {
	a, b := tube(2, 500, 1, 1, 2), tube(3, 100, 1, 1, 2)
	s := str(a)
	more, e := Add(s, b)
	if e != api.OK || !slices.Equal(more.Tubes, []api.Tube{a, b}) {
		t.Error(more, e)
	}
	more.Tubes[0].Count = 9
	if s.Tubes[0].Count != 2 {
		t.Error("memory is shared")
	}
	if one, e := Add(str(), a); e != api.OK || !Same(one, s) {
		t.Error(one, e)
	}
	for i, c := range []struct {
		s api.String
		t api.Tube
		e api.Errno
	}{
		{str(), api.Tube{}, api.ErrRange}, {s, api.Tube{}, api.ErrRange}, {str(slices.Repeat([]api.Tube{a}, 8)...), api.Tube{}, api.ErrFull}, {str(api.Tube{}), a, api.ErrRange}, {str(slices.Repeat([]api.Tube{{}}, 9)...), a, api.ErrFull},
		{str(tube(262, 4000, 1, 1, 2)), tube(1, 577, 1, 1, 2), api.ErrLong}, {str(tube(263, 4000, 1, 1, 2)), api.Tube{}, api.ErrLong},
	} {
		if x, e := Add(c.s, c.t); e != c.e || x.Tubes != nil {
			t.Error(i, x, e)
		}
	}
}

func TestP4_6Drop(t *testing.T) {
	s := example()
	for i, c := range []struct {
		joints int64
		counts []int64
		e      api.Errno
	}{
		{1, []int64{10, 59}, api.OK}, {59, []int64{10, 1}, api.OK}, {60, []int64{10}, api.OK}, {61, []int64{9}, api.OK}, {69, []int64{1}, api.OK}, {70, nil, api.OK}, {71, nil, api.ErrMissing}, {0, nil, api.ErrMissing}, {-1, nil, api.ErrMissing}, {1<<63 - 1, nil, api.ErrMissing},
	} {
		x, e := Drop(s, c.joints)
		var counts []int64
		for _, t := range x.Tubes {
			counts = append(counts, t.Count)
		}
		if e != c.e || !slices.Equal(counts, c.counts) || !Same(s, example()) {
			t.Error(i, x, e)
		}
	}
}

func TestP4_6Same(t *testing.T) {
	a, b := example(), example()
	if !Same(a, b) || !Same(str(), api.String{Tubes: []api.Tube{}}) || Same(a, str()) || !Same(str(api.Tube{Len: -1}), str(api.Tube{Len: -1})) {
		t.Error("Same")
	}
	b.Tubes[1].Used++
	if Same(a, b) || Same(a, str(a.Tubes[0])) {
		t.Error("Same of others")
	}
}

// TestP4_15 drops what was added, and compares joints: P4.8 and P4.15.
func TestP4_15(t *testing.T) {
	roll := dice(415)
	for range 100 {
		s := randomString(roll, 5)
		x := tube(1+roll(9), 100+roll(300), 500000, 5, 9)
		more, e := Add(s, x)
		if e != api.OK {
			t.Fatal(e)
		}
		back, _ := Drop(more, x.Count)
		if !Same(back, s) || !slices.Equal(Joints(more)[:len(Joints(s))], Joints(s)) {
			t.Fatal(back, s)
		}
		for _, mud := range []int64{0, 9000, 12000} {
			if Weight(more, mud) != Weight(s, mud)+Weight(str(x), mud) || Weight(more, mud)-Weight(more, mud+7) != 7*steel(more) {
				t.Fatal("P4.8")
			}
		}
	}
}

// steel is the volume of the steel of a string.
func steel(s api.String) int64 {
	sum := int64(0)
	for _, t := range s.Tubes {
		sum += t.Steel * t.Count * t.Len
	}
	return sum
}

// randomString is a string with at most n tubes.
func randomString(roll func(int64) int64, n int64) api.String {
	var s api.String
	for range 1 + roll(n) {
		s.Tubes = append(s.Tubes, tube(1+roll(9), 100+roll(300), 300000+roll(90000), 1+roll(20), 5+roll(10)))
	}
	return s
}
