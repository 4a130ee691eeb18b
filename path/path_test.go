package path

import (
	"slices"
	"testing"

	"moonpool/api"
)

func at(x, y, z int64) api.Vec { return api.Vec{X: x, Y: y, Z: z} }

func well(from api.Vec, legs ...api.Vec) api.Path { return api.Path{From: from, Legs: legs} }

// bent is the path P of the chapter, straight its path Q.
func bent() api.Path { return well(at(0, 0, 0), at(0, 0, 50000), at(0, 30000, 40000)) }

func straight() api.Path { return well(at(10000, 0, 0), at(0, 0, 100000)) }

func same(id, legs int, per api.Vec) api.Source {
	return api.Source{ID: id, Per: slices.Repeat([]api.Vec{per}, legs)}
}

// dice returns numbers that look random: the same ones each time.
func dice(seed uint64) func(n int64) int64 {
	return func(n int64) int64 {
		seed = seed*6364136223846793005 + 1442695040888963407
		return int64(seed>>33) % n
	}
}

// frames are vectors with whole lengths, in many directions.
func frames() []api.Vec {
	return []api.Vec{at(0, 0, 300), at(0, 300, 400), at(100, 200, 200), at(-200, 300, 600), at(-300, 0, 400), at(0, -300, 400), at(700, 0, 2400), at(200, -600, 900), at(-100, -200, 200)}
}

func TestP1_1Root(t *testing.T) {
	for n := int64(0); n < 400; n++ {
		want, ok := int64(0), false
		for r := range int64(20) {
			if r*r == n {
				want, ok = r, true
			}
		}
		if r, found := Root(n); r != want || found != ok {
			t.Error(n, r, found)
		}
	}
	if r, ok := Root(1 << 50); r != 1<<25 || !ok {
		t.Error(r, ok)
	}
	if r, ok := Root(((1 << 25) - 1) * ((1 << 25) - 1)); r != 1<<25-1 || !ok {
		t.Error(r, ok)
	}
	for _, n := range []int64{-1, -4, -1 << 63, 1<<50 - 1, 1<<50 + 1, (1<<25 + 1) * (1<<25 + 1), 1 << 52, 1<<63 - 1} {
		if r, ok := Root(n); r != 0 || ok {
			t.Error(n, r, ok)
		}
	}
}

func TestP1_1Check(t *testing.T) {
	o, down := at(0, 0, 0), at(0, 0, 100)
	for i, c := range []struct {
		p api.Path
		e api.Errno
	}{
		{bent(), api.OK}, {straight(), api.OK}, {api.Path{}, api.OK},
		{well(o, slices.Repeat([]api.Vec{down}, 20)...), api.OK},
		{well(o, slices.Repeat([]api.Vec{down}, 21)...), api.ErrLong},
		{well(at(-1<<63, 0, 0), slices.Repeat([]api.Vec{{}}, 21)...), api.ErrLong},
		{well(at(1<<20, -1<<20, 1<<20)), api.OK}, {well(at(1<<20+1, 0, 0)), api.ErrRange}, {well(at(0, -1<<20-1, 0)), api.ErrRange},
		{well(at(0, 0, -1)), api.ErrRange}, {well(at(0, 0, -1), at(1, 2, 3)), api.ErrRange}, {well(at(0, 0, 1<<20+1)), api.ErrRange},
		{well(at(-1<<63, 1<<63-1, -1<<63)), api.ErrRange},
		{well(o, at(1, 2, 3)), api.ErrForm}, {well(o, at(0, 0, -1<<24-1)), api.ErrForm}, {well(o, at(0, 0, -1<<24)), api.ErrRange},
		{well(o, at(1<<63-1, 1<<63-1, -1<<63)), api.ErrForm},
		{well(o, o), api.ErrRange}, {well(o, at(0, 0, 99)), api.ErrRange}, {well(o, at(0, 0, 1<<17)), api.OK}, {well(o, at(0, 0, 1<<17+1)), api.ErrRange},
		{well(o, at(0, 0, 500), at(500, 0, 0)), api.ErrClash}, {well(o, at(0, 0, 500), at(300, 0, -400)), api.ErrClash},
		{well(o, at(0, 0, 500), at(4200, 0, 4)), api.ErrForm}, {well(o, at(0, 0, 500), at(99, 0, 20)), api.OK},
		{well(o, at(99, 0, 20), at(-20, 0, 99)), api.ErrClash}, {well(o, at(22, 145, 10), at(-72, 1, 144)), api.OK}, // a product of 0, and of 1
		{well(at(0, 0, 399), at(300, 0, -400)), api.ErrRange}, {well(at(0, 0, 400), at(300, 0, -400)), api.OK},
		{well(at(0, -1<<20, 0), at(0, -300, 400)), api.ErrRange}, {well(at(0, 0, 1<<20-399), at(300, 0, 400)), api.ErrRange},
		{well(at(0, 0, 0), at(300, 0, -400), at(1, 2, 3)), api.ErrRange}, // of the joint before the next leg
	} {
		if e := Check(c.p); e != c.e {
			t.Error(i, e, c.e)
		}
	}
}

func TestP1_1Places(t *testing.T) {
	p := bent()
	if n := Length(p); n != 100000 {
		t.Error(n)
	}
	if l := Joints(p); !slices.Equal(l, []api.Vec{at(0, 0, 0), at(0, 0, 50000), at(0, 30000, 90000)}) {
		t.Error(l)
	}
	if l := Vert(p); !slices.Equal(l.Knots, []api.Knot{{At: 0, V: 0}, {At: 50000, V: 50000}, {At: 100000, V: 90000}}) {
		t.Error(l)
	}
	for _, c := range []struct {
		d    int64
		want api.Vec
		ok   bool
	}{
		{0, at(0, 0, 0), true}, {1, at(0, 0, 1), true}, {49999, at(0, 0, 49999), true}, {50000, at(0, 0, 50000), true}, {50001, at(0, 0, 50000), true},
		{75000, at(0, 15000, 70000), true}, {75001, at(0, 15000, 70000), true}, {75002, at(0, 15001, 70001), true}, {99999, at(0, 29999, 89999), true},
		{100000, at(0, 30000, 90000), true}, {100001, at(0, 0, 0), false}, {-1, at(0, 0, 0), false}, {1<<63 - 1, at(0, 0, 0), false}, {-1 << 63, at(0, 0, 0), false},
	} {
		if x, ok := At(p, c.d); x != c.want || ok != c.ok {
			t.Error(c, x, ok)
		}
	}
	// Components that fall are rounded down, too.
	if x, ok := At(well(at(7, -8, 500), at(-300, 0, -400)), 1); !ok || x != at(6, -8, 499) {
		t.Error(x, ok)
	}
	alone := well(at(7, 8, 9))
	if x, ok := At(alone, 0); !ok || x != at(7, 8, 9) || Length(alone) != 0 || len(Joints(alone)) != 1 {
		t.Error(x, ok)
	}
	if _, ok := At(alone, 1); ok {
		t.Error("a depth that the path does not have")
	}
	for _, bad := range []api.Path{well(at(0, 0, -1)), well(at(0, 0, 0), at(1, 2, 3))} {
		if _, ok := At(bad, 0); ok || Length(bad) != 0 || Joints(bad) != nil || Vert(bad).Knots != nil || Steepest(bad) != (api.Part{}) {
			t.Error("not valid")
		}
	}
}

func TestP1_2Turn(t *testing.T) {
	for i, c := range []struct {
		v, w api.Vec
		want api.Part
		e    api.Errno
	}{
		{at(0, 0, 50000), at(0, 30000, 40000), api.Part{N: 1, D: 5}, api.OK}, {at(3, 0, 4), at(6, 0, 8), api.Part{N: 0, D: 1}, api.OK},
		{at(3, 0, 4), at(4, 0, -3), api.Part{N: 1, D: 1}, api.OK}, {at(0, 0, 1), at(0, 0, -9), api.Part{N: 2, D: 1}, api.OK}, {at(0, 0, -9), at(0, 0, 1), api.Part{N: 2, D: 1}, api.OK},
		{at(1, 2, 2), at(2, 3, 6), api.Part{N: 1, D: 21}, api.OK}, {at(0, 3, 4), at(0, -3, 4), api.Part{N: 18, D: 25}, api.OK},
		{at(0, 0, 0), at(0, 0, 1), api.Part{}, api.ErrForm}, {at(0, 0, 1), at(0, 0, 0), api.Part{}, api.ErrForm}, {at(1, 1, 1), at(0, 0, 1), api.Part{}, api.ErrForm}, {at(0, 0, 1), at(1, 1, 1), api.Part{}, api.ErrForm},
		{at(0, 0, 1), at(0, 0, 1<<17), api.Part{N: 0, D: 1}, api.OK}, {at(0, 0, 1), at(0, 0, 1<<17+1), api.Part{}, api.ErrForm}, {at(0, 0, 1<<17+1), at(0, 0, 1), api.Part{}, api.ErrForm},
		{at(-1<<63, -1<<63, -1<<63), at(0, 0, 1), api.Part{}, api.ErrForm},
	} {
		if x, e := Turn(c.v, c.w); x != c.want || e != c.e {
			t.Error(i, x, e)
		}
	}
}

func TestP1_2Steepest(t *testing.T) {
	o := at(0, 0, 0)
	for i, c := range []struct {
		p    api.Path
		want api.Part
	}{
		{bent(), api.Part{N: 1, D: 5}}, {straight(), api.Part{N: 0, D: 1}}, {api.Path{}, api.Part{N: 0, D: 1}},
		{well(o, at(0, 0, 500), at(0, 300, 400), at(0, 0, 500), at(200, 300, 600)), api.Part{N: 1, D: 5}},
		{well(o, at(0, 0, 500), at(200, 300, 600), at(0, 300, 400)), api.Part{N: 1, D: 7}},
		{well(o, at(0, 0, 500), at(200, 300, 600), at(0, 0, 500), at(0, 300, 400)), api.Part{N: 1, D: 5}},
		{well(o, at(1, 2, 3)), api.Part{}},
		// Turns whose comparison takes products of more than 64 bits.
		{well(o, at(67566, 43278, 46061), at(38344, -9192, 96030), at(97432, -3699, 8916)), api.Part{N: 2768897997, D: 5081966645}},
	} {
		if x := Steepest(c.p); x != c.want {
			t.Error(i, x, Check(c.p))
		}
	}
}

func TestP1_3CheckSources(t *testing.T) {
	p := bent()
	for i, c := range []struct {
		p api.Path
		l []api.Source
		e api.Errno
	}{
		{p, nil, api.OK}, {p, []api.Source{same(1, 2, at(200, -200, 0))}, api.OK}, {well(at(0, 0, -1)), make([]api.Source, 9), api.ErrRange},
		{p, make([]api.Source, 5), api.ErrFull}, {p, []api.Source{same(1, 2, at(0, 0, 0)), same(2, 2, at(0, 0, 0)), same(50, 2, at(0, 0, 0)), same(99, 2, at(0, 0, 0))}, api.OK},
		{p, []api.Source{same(0, 2, at(0, 0, 0))}, api.ErrOrder}, {p, []api.Source{same(100, 2, at(0, 0, 0))}, api.ErrOrder}, {p, []api.Source{same(-1, 2, at(0, 0, 0))}, api.ErrOrder},
		{p, []api.Source{same(1, 2, at(0, 0, 0)), same(1, 2, at(0, 0, 0))}, api.ErrOrder}, {p, []api.Source{same(2, 2, at(0, 0, 0)), same(1, 2, at(0, 0, 0))}, api.ErrOrder},
		{p, []api.Source{same(1, 9, at(0, 0, 0)), same(1, 2, at(0, 0, 0))}, api.ErrOrder}, // the order first
		{p, []api.Source{same(1, 1, at(0, 0, 0))}, api.ErrForm}, {p, []api.Source{same(1, 3, at(0, 0, 0))}, api.ErrForm}, {p, []api.Source{same(1, 1, at(999, 0, 0))}, api.ErrForm},
		{p, []api.Source{same(1, 2, at(201, 0, 0)), same(2, 1, at(0, 0, 0))}, api.ErrRange}, {p, []api.Source{same(1, 2, at(0, 0, 0)), same(2, 1, at(0, 0, 0))}, api.ErrForm},
		{p, []api.Source{same(1, 2, at(0, -201, 0))}, api.ErrRange}, {p, []api.Source{same(1, 2, at(0, 0, -1<<63))}, api.ErrRange},
	} {
		if e := CheckSources(c.p, c.l); e != c.e {
			t.Error(i, e, c.e)
		}
	}
}

func TestP1_3Where(t *testing.T) {
	p := bent()
	l := []api.Source{{ID: 1, Per: []api.Vec{at(100, 0, -3), at(-20, 0, 0)}}, {ID: 4, Per: []api.Vec{at(-7, 5, 0), at(0, 5, 1)}}}
	if s := Shifts(p, l, 0); !slices.Equal(s, []api.Vec{{}, {}}) {
		t.Error(s)
	}
	if s := Shifts(p, l, 2); !slices.Equal(s, []api.Vec{at(80, 0, -3), at(-7, 10, 1)}) {
		t.Error(s)
	}
	if len(Shifts(p, l, 3))+len(Shifts(p, l, -1))+len(Shifts(p, make([]api.Source, 1), 0))+len(Shifts(p, nil, 1)) != 0 {
		t.Error("shifts of nothing")
	}
	if b, e := Where(p, l, 2); e != api.OK || b != (api.Box{Lo: at(-87, 29990, 89996), Hi: at(87, 30010, 90004)}) {
		t.Error(b, e)
	}
	one := []api.Source{same(1, 2, at(100, 0, 0))}
	if b, e := Where(p, one, 2); e != api.OK || b != (api.Box{Lo: at(-200, 30000, 90000), Hi: at(200, 30000, 90000)}) {
		t.Error(b, e)
	}
	for i, c := range []struct {
		p     api.Path
		l     []api.Source
		joint int
		e     api.Errno
	}{
		{well(at(0, 0, -1)), nil, 9, api.ErrRange}, {p, make([]api.Source, 5), 9, api.ErrFull}, {p, nil, 3, api.ErrMissing}, {p, nil, -1, api.ErrMissing}, {p, nil, 2, api.OK},
	} {
		b, e := Where(c.p, c.l, c.joint)
		a, f := Actual(c.p, c.l, nil, c.joint)
		if e != c.e || f != c.e || e != api.OK && (b != api.Box{} || a != api.Vec{}) {
			t.Error(i, e, f)
		}
	}
}

func TestP1_3Actual(t *testing.T) {
	p := bent()
	l := []api.Source{{ID: 1, Per: []api.Vec{at(100, 0, -3), at(-20, 0, 0)}}, {ID: 4, Per: []api.Vec{at(-7, 5, 0), at(0, 5, 1)}}}
	for i, c := range []struct {
		c     []int64
		joint int
		want  api.Vec
		e     api.Errno
	}{
		{[]int64{1000, -500, 9999}, 1, at(103500, -2500, 49997000), api.OK}, {[]int64{1000, -1000}, 0, at(0, 0, 0), api.OK}, {[]int64{1, 1}, 2, at(73, 30000010, 89999998), api.OK},
		{[]int64{1001}, 3, at(0, 0, 0), api.ErrMissing}, {[]int64{1001}, 1, at(0, 0, 0), api.ErrShort}, {nil, 1, at(0, 0, 0), api.ErrShort},
		{[]int64{0, 1001}, 1, at(0, 0, 0), api.ErrRange}, {[]int64{-1001, 0}, 0, at(0, 0, 0), api.ErrRange}, {[]int64{-1 << 63, 0}, 0, at(0, 0, 0), api.ErrRange},
	} {
		if x, e := Actual(p, l, c.c, c.joint); x != c.want || e != c.e {
			t.Error(i, x, e)
		}
	}
}

// TestP1_10 checks that the box of Where holds every Actual place, and that each of its sides is reached.
func TestP1_10(t *testing.T) {
	roll := dice(10)
	for range 60 {
		p := randomPath(roll, 3)
		l := randomSources(roll, 3, 1, 3)
		for n := range len(p.Legs) + 1 {
			box, _ := Where(p, l, n)
			lo, hi := vec(box.Hi), vec(box.Lo)
			for corner := range 8 {
				c := []int64{int64(corner&1)*2000 - 1000, int64(corner&2)*1000 - 1000, int64(corner&4)*500 - 1000}
				x, e := Actual(p, l, c, n)
				if e != api.OK || !vec(x).within(vec(box.Lo).times(1000), vec(box.Hi).times(1000)) {
					t.Fatal(x, e, box)
				}
				lo = vec{min(lo.X, x.X/1000), min(lo.Y, x.Y/1000), min(lo.Z, x.Z/1000)}
				hi = vec{max(hi.X, x.X/1000), max(hi.Y, x.Y/1000), max(hi.Z, x.Z/1000)}
			}
			if lo != vec(box.Lo) || hi != vec(box.Hi) {
				t.Fatal(lo, hi, box)
			}
		}
	}
}

// randomPath is a valid path with so many legs.
func randomPath(roll func(int64) int64, legs int) api.Path {
	for {
		p := api.Path{From: at(roll(3000), roll(3000), roll(3000)+2000)}
		for range legs {
			l := frames()
			p.Legs = append(p.Legs, api.Vec(vec(l[roll(int64(len(l)))]).times(1+roll(3))))
		}
		if valid(p) {
			return p
		}
	}
}

// randomSources are n sources for so many legs, the first one with the ID id.
func randomSources(roll func(int64) int64, n, id, legs int) []api.Source {
	var l []api.Source
	for i := range n {
		s := api.Source{ID: id + i}
		for range legs {
			s.Per = append(s.Per, at(roll(401)-200, roll(401)-200, roll(401)-200))
		}
		l = append(l, s)
	}
	return l
}

// TestP1_8 checks the places along random paths.
func TestP1_8(t *testing.T) {
	roll := dice(8)
	for range 40 {
		p := randomPath(roll, 3)
		joints, vert := Joints(p), Vert(p)
		for i, k := range vert.Knots {
			x, ok := At(p, k.At)
			if !ok || x != joints[i] || x.Z != k.V {
				t.Fatal(x, ok, joints[i], k)
			}
		}
		for range 50 {
			a, b := roll(Length(p)+1), roll(Length(p)+1)
			x, _ := At(p, a)
			y, _ := At(p, b)
			if far := a - b; !vec(x).minus(vec(y)).near(max(far, -far) + 1) {
				t.Fatal(a, b, x, y)
			}
		}
	}
}

// TestP1_9 checks that a turn is symmetric, independent of lengths, and 0 for one direction alone.
func TestP1_9(t *testing.T) {
	for i, v := range frames() {
		for j, w := range frames() {
			x, _ := Turn(v, w)
			y, _ := Turn(api.Vec(vec(w).times(3)), v)
			if x != y || (x == api.Part{N: 0, D: 1}) != (i == j) {
				t.Error(v, w, x, y)
			}
		}
	}
}
