package pipe

import (
	"math/big"
	"slices"
	"testing"

	"moonpool/api"
	"moonpool/path"
)

func pull(mud, lo, hi, bit int64) api.Case {
	return api.Case{Mode: api.ModeUp, Mud: mud, Mu: span(lo, hi), Bit: bit}
}

func TestP4_2Pieces(t *testing.T) {
	s := example()
	for i, c := range []struct {
		s    api.String
		p    api.Path
		want []api.Piece
		e    api.Errno
	}{
		{s, bent(), []api.Piece{{Tube: 0, Leg: 1, From: 60000, To: 70000}, {Tube: 1, Leg: 1, From: 50000, To: 60000}, {Tube: 1, Leg: 0, From: 0, To: 50000}}, api.OK},
		{str(tube(50, 1000, 1, 1, 2)), bent(), []api.Piece{{Tube: 0, Leg: 0, From: 0, To: 50000}}, api.OK},
		{str(tube(1, 100, 1, 1, 2), tube(50, 1000, 1, 1, 2)), bent(), []api.Piece{{Tube: 0, Leg: 1, From: 50000, To: 50100}, {Tube: 1, Leg: 0, From: 0, To: 50000}}, api.OK},
		{str(tube(100, 1000, 1, 1, 2)), bent(), []api.Piece{{Tube: 0, Leg: 1, From: 50000, To: 100000}, {Tube: 0, Leg: 0, From: 0, To: 50000}}, api.OK},
		{str(tube(4, 100, 1, 1, 2), tube(1, 150, 1, 1, 2)), well(v(0, 0, 100), v(0, 0, 100), v(0, 0, 100), v(0, 0, 400)), []api.Piece{{Tube: 0, Leg: 3, From: 300, To: 550}, {Tube: 0, Leg: 2, From: 200, To: 300}, {Tube: 0, Leg: 1, From: 150, To: 200}, {Tube: 1, Leg: 1, From: 100, To: 150}, {Tube: 1, Leg: 0, From: 0, To: 100}}, api.OK},
		{str(tube(101, 1000, 1, 1, 2)), bent(), nil, api.ErrLong}, {s, well(), nil, api.ErrLong}, {s, well(v(1, 2, 3)), nil, api.ErrForm},
	} {
		if e := Fits(c.s, c.p); e != c.e {
			t.Error(i, e)
		}
		if l := Pieces(c.s, c.p); !slices.Equal(l, c.want) {
			t.Error(i, l)
		}
	}
}

func TestP4_2Side(t *testing.T) {
	for i, c := range []struct {
		v    api.Vec
		want api.Range
	}{
		{v(0, 30000, 40000), span(30000, 30000)}, {v(1, 1, 0), span(1, 2)}, {v(0, 0, 5), span(0, 0)}, {v(-3, -4, -9), span(5, 5)}, {v(1<<24, 1<<24, 0), span(23726566, 23726567)}, {v(1<<24+1, 0, 0), span(0, 0)}, {v(0, -1<<24-1, 0), span(0, 0)}, {v(3, 4, 1<<24+1), span(0, 0)}, {v(-1<<24, 0, -1<<24), span(1<<24, 1<<24)}, {v(-1<<63, 0, 0), span(0, 0)},
	} {
		if r := Side(c.v); r != c.want {
			t.Error(i, r)
		}
	}
	for i, c := range []struct {
		v, w api.Vec
		want api.Range
	}{
		{v(0, 0, 50000), v(0, 30000, 40000), span(632455, 632456)}, {v(0, 0, 5), v(0, 0, 7), span(0, 0)}, {v(0, 0, 5), v(0, 0, -7), span(2000000, 2000000)}, {v(0, 0, 5), v(1, 0, 0), span(1414213, 1414214)}, {v(0, 0, 0), v(1, 0, 0), span(0, 0)}, {v(0, 0, 1<<17+1), v(1, 0, 0), span(0, 0)}, {v(1, 1, 1), v(1, 0, 0), span(0, 0)},
		{v(0, 0, 25), v(0, 7, 24), span(282842, 282843)}, {v(39, 228, 264), v(-97, 54, 234), span(673266, 673267)}, {v(232, 192, 99), v(166, 258, 51), span(333727, 333728)}, {v(67566, 43278, 46061), v(38344, -9192, 96030), span(788835, 788836)},
	} {
		if r := Bend(c.v, c.w); r != c.want {
			t.Error(i, r)
		}
	}
}

func TestP4_3CheckCase(t *testing.T) {
	s := example()
	for i, c := range []struct {
		c api.Case
		e api.Errno
	}{
		{pull(12000, 0, 0, 0), api.ErrState}, {pull(9000, 0, 0, 0), api.OK}, {pull(9999, 0, 600, 1<<40), api.OK}, {pull(10000, 0, 0, 0), api.ErrState},
		{api.Case{Mode: 0, Mud: -1}, api.ErrKind}, {api.Case{Mode: 4}, api.ErrKind}, {api.Case{Mode: api.ModeDown}, api.OK}, {api.Case{Mode: api.ModeSpin}, api.OK}, {api.Case{Mode: -1 << 63}, api.ErrKind},
		{pull(-1, 0, 0, 0), api.ErrRange}, {pull(40001, 0, 0, 0), api.ErrRange}, {pull(40000, 0, 0, 0), api.ErrState}, {pull(0, -1, 0, 0), api.ErrRange}, {pull(0, 1, 0, 0), api.ErrRange}, {pull(0, 600, 600, 0), api.OK}, {pull(0, 0, 601, 0), api.ErrRange}, {pull(0, 0, 0, -1), api.ErrRange}, {pull(0, 0, 0, 1<<40+1), api.ErrRange}, {pull(12000, 0, 0, -1), api.ErrRange},
	} {
		if e := CheckCase(s, c.c); e != c.e {
			t.Error(i, e, c.e)
		}
		_, e := Loads(s, bent(), c.c)
		ok, n, f := Strong(s, bent(), c.c)
		_, g := Buckles(s, bent(), c.c, 0)
		if e != c.e || f != c.e || c.e != api.OK && (g != c.e || ok || n != 0) {
			t.Error(i, e, f, g)
		}
	}
	light := str(tube(1, 100, 1001, 10, 2)) // of a wet weight of 1 in a mud of 100
	if e := CheckCase(light, pull(100, 0, 0, 0)); e != api.OK {
		t.Error(e)
	}
	if _, e := Loads(s, well(v(0, 0, 100)), api.Case{}); e != api.ErrLong {
		t.Error(e)
	}
}

func TestP4_3Examples(t *testing.T) {
	s := example()
	l, e := Loads(s, bent(), pull(0, 0, 0, 0))
	if e != api.OK || len(l) != 3 || l[0].Tension != span(24000000000, 24000000000) || l[1].Tension != span(26400000000, 26400000000) || l[2].Tension != span(41400000000, 41400000000) || l[0].At != 60000 || l[1].At != 50000 || l[2].At != 0 {
		t.Error(l, e)
	}
	l, e = Loads(s, bent(), pull(0, 200, 300, 0))
	if e != api.OK || l[0].Tension != span(27600000000, 29400000000) || l[0].Torque != span(0, 0) {
		t.Error(l, e)
	}
}

// exact computes the loads as the document says, with numbers of any size.
func exact(s api.String, p api.Path, c api.Case) []api.Hang {
	n := func(x int64) *big.Int { return big.NewInt(x) }
	// part is a times b times c / d, rounded down or up.
	part := func(a, b, c, d int64, up bool) int64 {
		q, r := new(big.Int).DivMod(new(big.Int).Mul(n(a), new(big.Int).Mul(n(b), n(c))), n(d), new(big.Int))
		if up && r.Sign() > 0 {
			q.Add(q, n(1))
		}
		return q.Int64()
	}
	abs := func(x int64) int64 { return max(x, -x) }
	lo, hi, torque := -c.Bit, -c.Bit, span(0, 0)
	if c.Mode == api.ModeUp {
		lo, hi = c.Bit, c.Bit
	}
	var hangs []api.Hang
	l := Pieces(s, p)
	for i, x := range l {
		tube, leg := s.Tubes[x.Tube], p.Legs[x.Leg]
		size := path.Length(api.Path{From: v(0, 0, 1<<19), Legs: []api.Vec{leg}})
		wet := tube.Air - c.Mud*tube.Steel
		rub := func(drag func(t, m int64, up bool) int64) {
			switch c.Mode {
			case api.ModeUp:
				lo, hi = lo+drag(lo, c.Mu.Lo, false), hi+drag(hi, c.Mu.Hi, true)
			case api.ModeDown:
				lo, hi = lo-drag(lo, c.Mu.Hi, true), hi-drag(hi, c.Mu.Lo, false)
			default:
				near := min(abs(lo), abs(hi))
				if lo <= 0 && hi >= 0 {
					near = 0
				}
				torque.Lo += part(drag(near, c.Mu.Lo, false), tube.Out, 1, 2, false)
				torque.Hi += part(drag(max(abs(lo), abs(hi)), c.Mu.Hi, true), tube.Out, 1, 2, true)
			}
		}
		if i > 0 && l[i-1].Leg != x.Leg {
			b := Bend(leg, p.Legs[x.Leg+1])
			rub(func(t, m int64, up bool) int64 {
				if up {
					return part(abs(t), m, b.Hi, 1000000000, true)
				}
				return part(abs(t), m, b.Lo, 1000000000, false)
			})
		}
		lo, hi = lo+part(wet, x.To-x.From, leg.Z, size, false), hi+part(wet, x.To-x.From, leg.Z, size, true)
		rub(func(t, m int64, up bool) int64 {
			side := Side(leg)
			if up {
				return part(part(wet, x.To-x.From, side.Hi, size, true), m, 1, 1000, true)
			}
			return part(part(wet, x.To-x.From, side.Lo, size, false), m, 1, 1000, false)
		})
		hangs = append(hangs, api.Hang{At: x.From, Tension: span(lo, hi), Torque: torque})
	}
	return hangs
}

// randomPath goes down in legs of many directions.
func randomPath(roll func(int64) int64) api.Path {
	frames := []api.Vec{v(0, 0, 300), v(0, 300, 400), v(100, 200, 200), v(-200, 300, 600), v(0, -300, 400), v(700, 0, 2400), v(200, -600, 900), v(300, 400, 0), v(600, 0, -100)}
	for {
		p := api.Path{From: v(0, 0, 2000)}
		for range 6 {
			leg := frames[roll(int64(len(frames)))]
			m := 1 + roll(5)
			p.Legs = append(p.Legs, v(leg.X*m, leg.Y*m, leg.Z*m))
		}
		if path.Check(p) == api.OK {
			return p
		}
	}
}

// randomFit is a string that fits the path.
func randomFit(roll func(int64) int64, p api.Path) api.String {
	for {
		if s := randomString(roll, 5); Fits(s, p) == api.OK {
			return s
		}
	}
}

func TestP4_3Exact(t *testing.T) {
	roll := dice(43)
	found := 0
	for range 300 {
		p := randomPath(roll)
		s := randomFit(roll, p)
		lo := roll(301)
		c := api.Case{Mode: int(1 + roll(3)), Mud: roll(13000), Mu: span(lo, lo+roll(300)), Bit: roll(1 + roll(1<<40))}
		l, e := Loads(s, p, c)
		want := exact(s, p, c)
		if e == api.OK && !slices.Equal(l, want) || e != api.OK && e != api.ErrRange && e != api.ErrState {
			t.Fatal(l, e, want)
		}
		if e == api.OK {
			found++
		}
	}
	if found < 150 {
		t.Error("too few loads", found)
	}
}

func TestP4_3Range(t *testing.T) {
	// 2^40 of overpull, and bends that nearly double it each time.
	p := well(v(0, 0, 250), v(0, 240, 70), v(0, 0, 250), v(0, 240, 70), v(0, 0, 250), v(0, 240, 70), v(0, 0, 250))
	s := str(tube(15, 100, 300000, 1, 9))
	l, e := Loads(s, p, pull(0, 0, 600, 1<<40))
	if e != api.ErrRange || l != nil {
		t.Error(l, e)
	}
	ok, n, e := Strong(s, p, pull(0, 0, 600, 1<<40))
	if ok || n != 0 || e != api.ErrRange {
		t.Error(ok, n, e)
	}
	if _, e := Buckles(s, p, pull(0, 0, 600, 1<<40), 0); e != api.ErrRange {
		t.Error(e)
	}
	if _, e := Loads(s, p, pull(0, 0, 200, 1<<40)); e != api.OK {
		t.Error(e)
	}
	down := api.Case{Mode: api.ModeDown, Mu: span(0, 600), Bit: 1 << 40}
	if _, e := Loads(s, p, down); e != api.ErrRange {
		t.Error(e)
	}
	// Just 2^42: what a string of a whole piece weighs is made to fit by the force at the bit.
	heavy := tube(32, 4000, 4000000, 1, 9)
	sum := int64(0)
	var all []api.Tube
	for range 8 {
		all = append(all, heavy)
		sum += 32 * 4000 * 4000000
	}
	straight := well(v(0, 0, 128000), v(0, 0, 128000), v(0, 0, 128000), v(0, 0, 128000), v(0, 0, 128000), v(0, 0, 128000), v(0, 0, 128000), v(0, 0, 128000))
	bit := int64(1<<42) - sum
	if bit > 1<<40 || bit < 0 {
		t.Fatal(bit)
	}
	if l, e := Loads(str(all...), straight, pull(0, 0, 0, bit)); e != api.OK || l[len(l)-1].Tension.Hi != 1<<42 {
		t.Error(l, e)
	}
	if _, e := Loads(str(all...), straight, pull(0, 0, 0, bit+1)); e != api.ErrRange {
		t.Error(e)
	}
}

// TestP4_3Bent has a tension that is too great after a bend, and not any more after the piece above it, which goes upwards.
func TestP4_3Bent(t *testing.T) {
	p := well(v(0, 70, -240), v(0, 240, -70), v(0, 240, 70), v(0, 70, 240), v(0, 240, 70))
	p.From.Z = 1000
	s := str(tube(5, 250, 4000000, 1, 9))
	lo, hi := int64(0), int64(1<<40)
	for lo+1 < hi { // the greatest force at the bit with which there is no error
		middle := (lo + hi) / 2
		if _, e := Loads(s, p, pull(0, 0, 600, middle)); e == api.OK {
			lo = middle
		} else {
			hi = middle
		}
	}
	l := exact(s, p, pull(0, 0, 600, hi))
	b := Bend(p.Legs[0], p.Legs[1]).Hi
	tension := l[3].Tension.Hi
	bent := new(big.Int).Mul(big.NewInt(tension), big.NewInt(600*b))
	bent.Div(bent.Add(bent, big.NewInt(999999999)), big.NewInt(1000000000))
	if after := bent.Int64() + tension; after <= 1<<42 || after > 1<<42+9 || l[4].Tension.Hi >= 1<<42 {
		t.Error(hi, after-1<<42, l[4].Tension.Hi-1<<42)
	}
}

// TestP4_3Spin has a tension that may be of either sign.
func TestP4_3Spin(t *testing.T) {
	c := contact{lower: func(tension, mu int64) int64 { return tension * mu }, upper: func(tension, mu int64) int64 { return tension * mu }, out: 3}
	for i, k := range []struct {
		tension, torque api.Range
	}{
		{span(-100, 50), span(0, 300)}, {span(-50, 100), span(0, 300)}, {span(50, 101), span(75, 303)}, {span(-101, -51), span(76, 303)}, {span(0, 7), span(0, 21)}, {span(-7, 0), span(0, 21)},
	} {
		if h := rubSpin(hold{Range: k.tension}, c, span(1, 2)); h.Range != k.tension || h.torque != k.torque {
			t.Error(i, h)
		}
	}
}

func TestP4_4Strong(t *testing.T) {
	s := example()
	c := pull(0, 200, 300, 5)
	l, _ := Loads(s, bent(), c)
	for i, k := range []struct {
		tube  int
		yield int64
		want  int
	}{{0, l[0].Tension.Hi, -1}, {0, l[0].Tension.Hi - 1, 0}, {1, l[2].Tension.Hi, -1}, {1, l[2].Tension.Hi - 1, 2}, {1, l[1].Tension.Hi - 1, 1}} {
		x := example()
		x.Tubes[k.tube].Yield = k.yield
		if ok, n, e := Strong(x, bent(), c); ok != (k.want == -1) || n != k.want || e != api.OK {
			t.Error(i, ok, n, e)
		}
	}
	c.Mode = api.ModeSpin
	l, _ = Loads(s, bent(), c)
	for i, k := range []struct {
		tube  int
		twist int64
		want  int
	}{{0, l[0].Torque.Hi, -1}, {0, l[0].Torque.Hi - 1, 0}, {1, l[2].Torque.Hi, -1}, {1, l[2].Torque.Hi - 1, 2}, {1, l[1].Torque.Hi - 1, 1}} {
		x := example()
		x.Tubes[k.tube].Twist = k.twist
		if ok, n, e := Strong(x, bent(), c); ok != (k.want == -1) || n != k.want || e != api.OK {
			t.Error(i, ok, n, e)
		}
	}
}

func TestP4_4Buckles(t *testing.T) {
	p := well(v(0, 0, 10000), v(0, 6000, 8000))
	s := str(tube(1, 1000, 300000, 30, 13), tube(14, 1000, 300000, 30, 13))
	// In the upright leg nothing presses, so any force buckles; in the other one p is 180000.
	stiff := int64(1000000)
	for i := range s.Tubes {
		s.Tubes[i].Stiff = stiff
	}
	force := critical(s.Tubes[0], p.Legs[1], 0, 30)
	if want := int64(1000 * 291042); force != want { // the root of 8 1000000 180000 / 17 = 84705882352.9
		t.Fatal(force, want)
	}
	down := api.Case{Mode: api.ModeDown, Mud: 0, Mu: span(0, 0)}
	for i, c := range []struct {
		bit  int64
		want []int
	}{
		{0, nil}, {force, nil}, {force + 1, []int{0}}, {240000000 + force, []int{0}}, {240000000 + force + 1, []int{0, 1}}, {1200000000, []int{0, 1}}, {1200000001, []int{0, 1, 2}}, {2000000000, []int{0, 1, 2}},
	} {
		down.Bit = c.bit
		if l, e := Buckles(s, p, down, 30); e != api.OK || !slices.Equal(l, c.want) {
			t.Error(i, l, e)
		}
	}
	// The drag of a bend counts as before the piece.
	down.Bit, down.Mu = 1200000000-1, span(0, 1)
	if l, e := Buckles(s, p, down, 30); e != api.OK || !slices.Equal(l, []int{0, 1, 2}) {
		t.Error(l, e)
	}
	// The side and p are rounded down: 223 of 300, and 743 of a wet weight of 1000.
	odd := api.Tube{Air: 1000, Stiff: 77777, Out: 9}
	if n := critical(odd, v(100, 200, 200), 0, 30); n != 1000*4691 {
		t.Error(n)
	}
	for hole, want := range map[int64]api.Errno{13: api.ErrRange, 14: api.OK, 200: api.OK, 201: api.ErrRange, -1 << 63: api.ErrRange, 1<<63 - 1: api.ErrRange} {
		if l, e := Buckles(s, p, down, hole); e != want || e != api.OK && l != nil {
			t.Error(hole, l, e)
		}
	}
	s.Tubes[1].Out = 30
	if _, e := Buckles(s, p, down, 30); e != api.ErrRange {
		t.Error(e)
	}
}

// TestP4_4After lets friction alone press a piece together, in a leg without any fall: the least tension after it counts.
func TestP4_4After(t *testing.T) {
	p := well(v(0, 8000, 6000), v(0, 10000, 0))
	s := str(tube(1, 1000, 300000, 30, 13), tube(14, 1000, 300000, 30, 13))
	for i := range s.Tubes {
		s.Tubes[i].Stiff = 1000000
	}
	force := critical(s.Tubes[0], p.Legs[1], 0, 30)
	c := api.Case{Mode: api.ModeDown, Mu: span(0, 600)}
	for bit, want := range map[int64]bool{force - 180000000: false, force - 180000000 + 1: true, force + 1: true} {
		c.Bit = bit
		if l, e := Buckles(s, p, c, 30); e != api.OK || slices.Contains(l, 0) != want {
			t.Error(bit, l, e)
		}
	}
}

func TestP4_5Table(t *testing.T) {
	row := func(n, d, turns int64) api.Row { return api.Row{Turn: api.Part{N: n, D: d}, Turns: turns} }
	for i, c := range []struct {
		l []api.Row
		e api.Errno
	}{
		{nil, api.ErrShort}, {make([]api.Row, 9), api.ErrFull}, {[]api.Row{row(0, 1, 1)}, api.OK}, {[]api.Row{row(1000, 1000, 1<<30)}, api.OK}, {[]api.Row{row(0, 0, 1)}, api.ErrRange}, {[]api.Row{row(0, 1001, 1)}, api.ErrRange}, {[]api.Row{row(-1, 5, 1)}, api.ErrRange}, {[]api.Row{row(6, 5, 1)}, api.ErrRange}, {[]api.Row{row(0, 5, 0)}, api.ErrRange}, {[]api.Row{row(0, 5, 1<<30+1)}, api.ErrRange},
		{[]api.Row{row(1, 5, 9), row(2, 5, 8)}, api.OK}, {[]api.Row{row(1, 5, 9), row(2, 10, 8)}, api.ErrOrder}, {[]api.Row{row(1, 5, 9), row(199, 1000, 8)}, api.ErrOrder}, {[]api.Row{row(1, 5, 9), row(201, 1000, 8)}, api.OK}, {[]api.Row{row(1, 5, 9), row(2, 5, 9)}, api.ErrOrder},
		{[]api.Row{row(1, 5, 9), row(1, 5, 9), row(1, 0, 9)}, api.ErrOrder}, {[]api.Row{row(1, 5, 9), row(1, 0, 9), row(1, 5, 9)}, api.ErrRange},
		{[]api.Row{row(1, 9, 9), row(2, 9, 8), row(3, 9, 7), row(4, 9, 6), row(5, 9, 5), row(6, 9, 4), row(7, 9, 3), row(8, 9, 2)}, api.OK}, {[]api.Row{row(-1<<63, -1<<63, 1)}, api.ErrRange},
	} {
		if e := CheckTable(c.l); e != c.e {
			t.Error(i, e, c.e)
		}
		if x, e := Turn(example(), bent(), c.l, -1); c.e != api.OK && e != c.e || c.e == api.OK && e != api.ErrRange || x.Tubes != nil {
			t.Error(i, x, e)
		}
	}
}

func TestP4_5Turn(t *testing.T) {
	row := func(n, d, turns int64) api.Row { return api.Row{Turn: api.Part{N: n, D: d}, Turns: turns} }
	s := example()
	three := well(v(0, 0, 20000), v(0, 12000, 16000), v(0, 0, 20000), v(0, 0, 20000)) // bends of 1/5, 1/5 and 0; the bit is in the last leg
	for i, c := range []struct {
		p    api.Path
		l    []api.Row
		n    int64
		used []int64
		e    api.Errno
	}{
		{bent(), []api.Row{row(1, 5, 3)}, 1, []int64{0, 333333334}, api.OK}, {bent(), []api.Row{row(1, 5, 3)}, 2, []int64{0, 666666667}, api.OK}, {bent(), []api.Row{row(1, 5, 3)}, 0, []int64{0, 0}, api.OK},
		{bent(), []api.Row{row(1, 6, 9), row(1, 5, 8), row(1, 4, 7)}, 8, []int64{0, 1000000000}, api.OK}, {bent(), []api.Row{row(199, 1000, 9)}, 7, []int64{0, 7000000000}, api.OK}, // no row: as if one turn were allowed
		{bent(), []api.Row{row(1, 1, 1<<30)}, 1 << 20, []int64{0, 976563}, api.OK}, {bent(), []api.Row{row(1, 1, 1<<30)}, 1<<20 + 1, nil, api.ErrRange}, {bent(), []api.Row{row(1, 1, 1<<30)}, -1, nil, api.ErrRange},
		{three, []api.Row{row(0, 1, 10), row(1, 5, 5)}, 1, []int64{100000000, 400000000}, api.OK}, {bent(), []api.Row{row(1, 6, 1)}, 1099, []int64{0, 1099000000000}, api.OK}, {bent(), []api.Row{row(1, 6, 1)}, 1100, nil, api.ErrFull},
		{well(v(0, 0, 100000)), []api.Row{row(1, 6, 1)}, 1 << 20, []int64{0, 0}, api.OK}, {well(v(0, 0, 70000), v(0, 300, 400)), []api.Row{row(1, 6, 1)}, 5, []int64{0, 0}, api.OK}, // the string ends at the bend
		{well(v(0, 0, 65000), v(0, 6000, 8000)), []api.Row{row(1, 5, 1)}, 5, []int64{5000000000, 0}, api.OK}, {well(v(0, 0, 60000), v(0, 6000, 8000)), []api.Row{row(1, 5, 1)}, 5, []int64{5000000000, 0}, api.OK}, // at an end of tubes the lower one is bent
	} {
		x, e := Turn(s, c.p, c.l, c.n)
		var used []int64
		for _, t := range x.Tubes {
			used = append(used, t.Used)
		}
		if e != c.e || !slices.Equal(used, c.used) || !Same(s, example()) {
			t.Error(i, used, e)
		}
	}
	s.Tubes[1].Used = 1<<40 - 333333334
	if x, e := Turn(s, bent(), []api.Row{row(1, 5, 3)}, 1); e != api.OK || x.Tubes[1].Used != 1<<40 {
		t.Error(x, e)
	}
	s.Tubes[1].Used++
	if _, e := Turn(s, bent(), []api.Row{row(1, 5, 3)}, 1); e != api.ErrFull {
		t.Error(e)
	}
	if _, e := Turn(s, well(v(0, 0, 100)), nil, 1); e != api.ErrLong {
		t.Error(e)
	}
}

// TestP4_9 checks the theorems P4.7, P4.9, P4.10, P4.12, P4.13 and P4.14 on random strings.
func TestP4_9(t *testing.T) {
	roll := dice(49)
	inside := func(a, b []api.Hang) bool {
		return slices.EqualFunc(a, b, func(x, y api.Hang) bool {
			return y.Tension.Lo <= x.Tension.Lo && x.Tension.Hi <= y.Tension.Hi && y.Torque.Lo <= x.Torque.Lo && x.Torque.Hi <= y.Torque.Hi
		})
	}
	for range 200 {
		p := randomPath(roll)
		s := randomFit(roll, p)
		depth := Length(s)
		for i, x := range Pieces(s, p) {
			if x.To != depth || x.From >= x.To || i == len(Pieces(s, p))-1 && x.From != 0 {
				t.Fatal("P4.7", x, depth)
			}
			depth = x.From
		}
		lo := roll(200)
		c := api.Case{Mode: int(1 + roll(3)), Mud: roll(9000), Mu: span(lo, lo+2+roll(300)), Bit: roll(1 << 34)}
		wide, e := Loads(s, p, c)
		if e != api.OK {
			t.Fatal(e)
		}
		less := c
		less.Mu.Lo, less.Mu.Hi = c.Mu.Lo+1, c.Mu.Hi-roll(2)
		narrow, _ := Loads(s, p, less)
		if !inside(narrow, wide) {
			t.Fatal("P4.9", narrow, wide)
		}
		a, _, _ := Strong(s, p, c)
		b, _, _ := Strong(s, p, less)
		if a && !b {
			t.Fatal("P4.13")
		}
		var byMode [4][]api.Hang
		for m := 1; m <= 3; m++ {
			c.Mode = m
			c.Mu.Lo = c.Mu.Hi
			byMode[m], _ = Loads(s, p, c)
		}
		c.Mode, c.Bit = api.ModeUp, 0
		free := make([][]api.Hang, 4)
		for m := 1; m <= 3; m++ {
			c.Mode = m
			free[m], _ = Loads(s, p, c)
		}
		for i := range free[1] {
			up, down, spin := free[api.ModeUp][i].Tension, free[api.ModeDown][i].Tension, free[api.ModeSpin][i].Tension
			if up.Lo < spin.Lo || up.Hi < spin.Hi || spin.Lo < down.Lo || spin.Hi < down.Hi {
				t.Fatal("P4.10", up, spin, down)
			}
			if x := byMode[api.ModeUp][i].Tension; x.Lo < up.Lo || x.Hi < up.Hi {
				t.Fatal("P4.12")
			}
			if x := byMode[api.ModeDown][i].Tension; x.Lo > down.Lo || x.Hi > down.Hi {
				t.Fatal("P4.12")
			}
		}
		c.Mode = api.ModeUp
		light, _ := Loads(s, p, c)
		c.Mud += roll(500)
		heavy, _ := Loads(s, p, c)
		for i := range light {
			if heavy[i].Tension.Hi > light[i].Tension.Hi && !slices.ContainsFunc(p.Legs, func(leg api.Vec) bool { return leg.Z < 0 }) {
				t.Fatal("P4.12, a heavier mud")
			}
		}
		l := []api.Row{{Turn: api.Part{N: 1, D: 9}, Turns: 1000003}, {Turn: api.Part{N: 1, D: 1}, Turns: 70001}}
		n, m := roll(50), roll(50)
		x, _ := Turn(s, p, l, n)
		x, _ = Turn(x, p, l, m)
		y, _ := Turn(s, p, l, n+m)
		for i := range x.Tubes {
			if more := x.Tubes[i].Used - y.Tubes[i].Used; more < 0 || more > int64(len(p.Legs)-1) {
				t.Fatal("P4.14", more)
			}
		}
	}
}

func TestP4_11(t *testing.T) {
	roll := dice(411)
	p := well(v(0, 0, 7000), v(0, 0, 9000), v(0, 0, 9000))
	for range 50 {
		s := randomFit(roll, p)
		c := api.Case{Mode: int(1 + roll(3)), Mud: roll(12000), Mu: span(0, 600), Bit: roll(1 << 30)}
		bit := -c.Bit
		if c.Mode == api.ModeUp {
			bit = c.Bit
		}
		l, e := Loads(s, p, c)
		if n := Weight(s, c.Mud) + bit; e != api.OK || l[len(l)-1].Tension != span(n, n) || l[len(l)-1].Torque != span(0, 0) {
			t.Fatal(l, e)
		}
	}
}
