package fluid

import (
	"math/big"
	"testing"

	"moonpool/api"
)

func mud(yield, visc int64) api.Mud { return api.Mud{Yield: yield, Visc: visc} }

func TestP3_5Flows(t *testing.T) {
	s := example().Segs[0]
	for i, c := range []struct {
		s       api.Seg
		m       api.Mud
		g, flow int64
		ok      bool
	}{
		{s, mud(100, 10), 2, 1, false}, {s, mud(100, 10), 3, 1, true}, {s, mud(100, 10), 3, 66666, true}, {s, mud(100, 10), 3, 66667, false}, {s, mud(100, 10), 0, 0, true}, {s, mud(100, 10), 2, 0, true}, {s, mud(0, 10), 0, 0, true}, {s, mud(0, 10), 0, 1, false},
		{s, mud(0, 10), 1, 150000, true}, {s, mud(0, 10), 1, 150001, false}, // exactly 2 t g A / m
		{s, mud(1000000, 1), 20000, 1, false}, {s, mud(999999, 1000000), 20000, 0, true}, {seg(1, 1, 5000, 200), mud(0, 1), 20000, 1000000, true},
		{seg(0, 0, 1, 1), mud(0, 1), 0, 0, false}, {seg(1<<20+1, 0, 1, 1), mud(0, 1), 0, 0, false}, {s, mud(-1, 1), 0, 0, false}, {s, mud(1000001, 1), 0, 0, false}, {s, mud(0, 0), 0, 0, false}, {s, mud(0, 1000001), 0, 0, false},
		{s, mud(0, 1), -1, 0, false}, {s, mud(0, 1), 20001, 0, false}, {s, mud(0, 1), 20000, 0, true}, {s, mud(0, 1), 5, -1, false}, {s, mud(0, 1), 5, 1000001, false}, {s, mud(0, 1), 5, 1000000, true}, {s, mud(0, 1), 1<<63 - 1, 0, false}, {s, mud(0, 1), -1 << 63, 0, false},
	} {
		if ok := Flows(c.s, c.m, c.g, c.flow); ok != c.ok {
			t.Error(i, ok)
		}
	}
}

// exactFlows computes as the document does.
func exactFlows(s api.Seg, m api.Mud, g, flow int64) bool {
	n := func(x int64) *big.Int { return big.NewInt(x) }
	mul := func(l ...*big.Int) *big.Int {
		p := n(1)
		for _, x := range l {
			p.Mul(p, x)
		}
		return p
	}
	tt, y := n(g*s.Gap), n(m.Yield)
	if tt.Cmp(y) <= 0 {
		return flow == 0
	}
	sum := mul(n(2), tt, tt, tt)
	sum.Sub(sum, mul(n(3), y, tt, tt))
	sum.Add(sum, mul(y, y, y))
	return mul(sum, n(s.Gap), n(s.Area)).Cmp(mul(n(flow), n(m.Visc), tt, tt)) >= 0
}

// TestP3_5Exact compares with computation without bounds, near the gradient of a flow.
func TestP3_5Exact(t *testing.T) {
	roll := dice(35)
	big := func(n int64) int64 { return 1 + roll(1+roll(1+roll(n))) }
	found := 0
	for range 4000 {
		s := seg(1+roll(100), 1, big(5000), big(200))
		m := mud(big(1000001)-1, big(1000000))
		flow := big(1000001) - 1
		g, ok := Gradient(s, m, flow)
		if !ok {
			if g != 0 || exactFlows(s, m, 20000, flow) {
				t.Fatal(s, m, flow, g)
			}
			continue
		}
		found++
		for x := max(0, g-2); x <= min(20000, g+2); x++ {
			if want := exactFlows(s, m, x, flow); want != (x >= g) || Flows(s, m, x, flow) != want {
				t.Fatal(s, m, flow, g, x)
			}
		}
	}
	if found < 1000 {
		t.Error("too few gradients", found)
	}
}

func TestP3_5Gradient(t *testing.T) {
	s := example().Segs[0]
	for i, c := range []struct {
		s       api.Seg
		m       api.Mud
		flow, g int64
		ok      bool
	}{
		{s, mud(100, 10), 1, 3, true}, {s, mud(100, 10), 66666, 3, true}, {s, mud(100, 10), 66667, 4, true}, {s, mud(100, 10), 0, 0, true}, {s, mud(999950, 1), 1, 20000, true}, {s, mud(1000000, 1), 1, 0, false}, {s, mud(1000000, 1), 0, 0, true},
		{s, mud(0, 1), 1000001, 0, false}, {s, mud(0, 1), -1, 0, false}, {s, mud(0, 0), 0, 0, false}, {s, mud(1000001, 1), 1, 0, false}, {seg(1, 2, 1, 1), mud(0, 1), 0, 0, false}, {seg(1, 1, 1, 1), mud(0, 1000000), 1000000, 0, false},
	} {
		if g, ok := Gradient(c.s, c.m, c.flow); g != c.g || ok != c.ok {
			t.Error(i, g, ok)
		}
	}
}

func TestP3_5Loss(t *testing.T) {
	h := example() // gradients 3 and 2 for a flow of 1 of the mud 100, 10
	m := mud(100, 10)
	for i, c := range []struct {
		h       api.Hole
		m       api.Mud
		flow, u int64
		want    api.Range
		ok      bool
	}{
		{h, m, 1, 0, span(7000, 7000), true}, {h, m, 1, 300000, span(4000, 4000), true}, {h, m, 1, 1100000, span(0, 0), true}, {h, m, 1, 1, span(6997, 7000), true}, {h, m, 1, 1099999, span(0, 2), true}, {h, m, 1, 300001, span(3998, 4000), true},
		{h, m, 1, 150000, span(5500, 5500), true}, {h, m, 0, 0, span(0, 0), true}, {h, m, 1, -1, span(0, 0), false}, {h, m, 1, 1100001, span(0, 0), false}, {hole(), m, 1, 0, span(0, 0), false}, {h, mud(0, 0), 1, 0, span(0, 0), false}, {h, m, -1, 0, span(0, 0), false}, {h, m, 1000001, 0, span(0, 0), false},
		{h, mud(1000000, 1), 1, 1100000, span(0, 0), false}, // the segment below has no gradient
	} {
		if r, ok := Loss(c.h, c.m, c.flow, c.u); r != c.want || ok != c.ok {
			t.Error(i, r, ok)
		}
	}
}

// TestP3_12 checks losses and gradients of random segments: P3.11 and P3.12.
func TestP3_12(t *testing.T) {
	roll := dice(312)
	for range 100 {
		h := randomHole(roll)
		m := mud(roll(300), 1+roll(20))
		before, ok := Loss(h, m, 30, 0)
		for u := int64(0); u <= Volume(h) && ok; u++ {
			r, _ := Loss(h, m, 30, u)
			if r.Lo > before.Lo || r.Hi > before.Hi || r.Lo > r.Hi {
				t.Fatal(u, r, before)
			}
			before = r
		}
		if before != (api.Range{}) {
			t.Fatal("a loss at the top", before)
		}
		s := h.Segs[0]
		g, ok := Gradient(s, m, 30)
		for _, more := range []struct {
			s    api.Seg
			m    api.Mud
			flow int64
		}{{s, mud(m.Yield+7, m.Visc), 30}, {s, mud(m.Yield, m.Visc+3), 30}, {s, m, 35}} {
			if x, yes := Gradient(more.s, more.m, more.flow); yes && (!ok || x < g) {
				t.Fatal(more, x, g)
			}
		}
		s.Gap++
		if x, yes := Gradient(s, m, 30); ok && (!yes || x > g) {
			t.Fatal("a greater gap needs more", x, g)
		}
	}
}

func TestP3_6Gas(t *testing.T) {
	for i, c := range []struct {
		k, power, p, free int64
		space             api.Range
	}{
		{5000000, 1000, 3145728, 4997000, span(1, 2)}, {5000000, 1000, 3145727, 4998000, span(1, 2)}, {5000, 1000, 5242880, 0, span(0, 0)}, {5000, 1000, 5242879, 1000, span(0, 1)}, {7, 0, 7, 7, span(1, 1)}, {8, 0, 7, 8, span(1, 2)},
		{1 << 60, 0, 1, 1 << 60, span(1<<60, 1<<60)}, {1 << 60, 1 << 40, 1 << 36, 1<<60 - 1<<56, span(1<<24-1<<20, 1<<24-1<<20)}, {1<<60 + 1, 0, 1, 0, span(0, 0)}, {-1, 0, 1, 0, span(0, 0)}, {9, -1, 1, 0, span(0, 0)}, {9, 1<<40 + 1, 1, 0, span(0, 0)},
		{9, 1, 0, 0, span(0, 0)}, {9, 1, 1<<36 + 1, 0, span(0, 0)}, {9, 1, -1 << 63, 0, span(0, 0)}, {9, 1, 1, 9, span(9, 9)}, {3, 1, 1 << 36, 0, span(0, 0)},
	} {
		g := api.Gas{K: c.k, Power: c.power}
		if f, s := Free(g, c.p), Space(g, c.p); f != c.free || s != c.space {
			t.Error(i, f, s)
		}
	}
	for i, c := range []struct {
		k, power, p int64
		ok          bool
	}{
		{5000, 1000, 5242880, true}, {5001, 1000, 6291456, true}, {0, 0, 1, true}, {0, 5, 1, true}, {1, 0, 0, false}, {1 << 56, 1 << 40, 1 << 36, true}, {1<<56 + 1, 1 << 40, 0, false}, {1, 1, 1 << 20, true}, {65536, 1, 1 << 36, true}, {65537, 1, 0, false},
		{-1, 1, 0, false}, {1, -1, 0, false}, {1<<60 + 1, 1 << 40, 0, false}, {1, 1<<40 + 1, 0, false},
	} {
		if p, ok := Bubble(api.Gas{K: c.k, Power: c.power}); p != c.p || ok != c.ok {
			t.Error(i, p, ok)
		}
	}
}

func TestP3_13(t *testing.T) {
	roll := dice(313)
	for range 200 {
		g := api.Gas{K: roll(1 << 30), Power: roll(1 << 20)}
		p := 1 + roll(1<<30)
		q := p + roll(1<<30)
		if a, b := Free(g, p), Free(g, q); b > a || Space(g, q).Hi > Space(g, p).Hi || Space(g, q).Lo > Space(g, p).Lo {
			t.Fatal(a, b)
		}
		if b, ok := Bubble(g); ok && (Free(g, b) != 0 || b > 1 && Free(g, b-1) == 0 || Free(g, min(1<<36, b+roll(1<<30))) != 0) {
			t.Fatal(b)
		}
	}
}

func TestP3_7Load(t *testing.T) {
	s := example().Segs[0]
	for i, c := range []struct {
		s                      api.Seg
		feed, flow, slip, load int64
		ok                     bool
	}{
		{s, 100, 40000, 30, 4, true}, {s, 100, 9000, 30, 0, false}, {s, 100, 9001, 30, 1000, true}, {s, 1, 9001, 30, 1000, true}, {s, 0, 9001, 30, 0, true}, {s, 1, 10000, 30, 1, true}, {s, 1, 10001, 30, 1, true}, {s, 1, 9999, 30, 2, true}, {s, 5, 0, 0, 0, false}, {s, 5, 1, 0, 1000, true},
		{s, 1000000, 1000000, 1000, 1000, true}, {s, 1000001, 1000000, 0, 0, false}, {s, -1, 1000000, 0, 0, false}, {s, 1, 1000001, 0, 0, false}, {s, 1, -1, 0, 0, false}, {s, 1, 1000000, 1001, 0, false}, {s, 1, 1000000, -1, 0, false}, {seg(1, 2, 1, 1), 1, 1000, 0, 0, false}, {seg(9, 9, 999, 1), 1, 1000000, 1000, 1, true},
	} {
		if n, ok := Load(c.s, c.feed, c.flow, c.slip); n != c.load || ok != c.ok {
			t.Error(i, n, ok)
		}
	}
	for i, c := range []struct{ weight, rock, load, want int64 }{
		{12000, 26000, 4, 12056}, {12000, 26000, 0, 12000}, {12000, 26000, 1000, 26000}, {12000, 12001, 1, 12001}, {12001, 12000, 1, 12001}, {12001, 12000, 1000, 12000}, {12000, 0, 999, 12}, {40000, 40000, 1000, 40000}, {0, 40000, 500, 20000},
		{40001, 1, 1, 0}, {-1, 1, 1, 0}, {1, 40001, 1, 0}, {1, -1, 1, 0}, {1, 1, -1, 0}, {1, 1, 1001, 0}, {-1 << 63, 1<<63 - 1, 5, 0},
	} {
		if n := Mixed(c.weight, c.rock, c.load); n != c.want {
			t.Error(i, n)
		}
	}
}

func TestP3_14(t *testing.T) {
	roll := dice(314)
	for range 300 {
		s := seg(10, 10, 1+roll(500), 1+roll(90))
		feed, flow, slip := roll(1000), roll(100000), roll(100)
		n, ok := Load(s, feed, flow, slip)
		m, still := Load(s, feed, flow+roll(1000), slip)
		if ok && (!still || m > n) {
			t.Fatal(n, m, still)
		}
		if w := roll(20000); Mixed(w, w+roll(20000), n) < w {
			t.Fatal("a load makes a mud lighter")
		}
	}
}
