package barrier

import (
	"slices"
	"testing"

	"moonpool/api"
)

// example is the house H of the chapter.
func example() api.House {
	return api.House{
		Elements:  []api.Element{sound(1000, 0, 100), sound(2000, 0, 100), sound(1500, 0, 50), {State: api.Untested}},
		Envelopes: [][]int{{0, 1}, {1, 2}, {2}, {3}},
		Need:      2,
	}
}

func sound(bears, tested, until int64) api.Element {
	return api.Element{State: api.Sound, Bears: bears, Tested: tested, Until: until}
}

// dice returns numbers that look random: the same ones each time.
func dice(seed uint64) func(n int64) int64 {
	return func(n int64) int64 {
		seed = seed*6364136223846793005 + 1442695040888963407
		return int64(seed>>33) % n
	}
}

func TestP9_1CheckHouse(t *testing.T) {
	for i, c := range []struct {
		change func(h *api.House)
		e      api.Errno
	}{
		{func(h *api.House) {}, api.OK}, {func(h *api.House) { h.Elements, h.Envelopes = nil, make([][]int, 9) }, api.ErrShort}, {func(h *api.House) { h.Elements = make([]api.Element, 10) }, api.OK}, {func(h *api.House) { h.Elements = make([]api.Element, 11) }, api.ErrFull}, {func(h *api.House) { h.Envelopes, h.Elements[0].State = make([][]int, 9), 9 }, api.ErrFull}, {func(h *api.House) { h.Envelopes = slices.Repeat([][]int{{0}}, 8) }, api.OK}, {func(h *api.House) { h.Envelopes = nil }, api.OK},
		{func(h *api.House) { h.Elements[1].State = 4 }, api.ErrKind}, {func(h *api.House) { h.Elements[1].State = -1 }, api.ErrKind}, {func(h *api.House) { h.Elements[1] = api.Element{State: 4, Bears: -1} }, api.ErrKind}, {func(h *api.House) { h.Elements[0].Bears, h.Elements[1].State = -1, 4 }, api.ErrRange}, {func(h *api.House) { h.Elements[0].State = 3 }, api.OK}, {func(h *api.House) { h.Elements[0].State = 0 }, api.OK},
		{func(h *api.House) { h.Elements[3].Bears = 1 << 36 }, api.OK}, {func(h *api.House) { h.Elements[3].Bears = 1<<36 + 1 }, api.ErrRange}, {func(h *api.House) { h.Elements[3].Tested = -1 }, api.ErrRange}, {func(h *api.House) { h.Elements[3] = sound(0, 1<<40, 1<<41) }, api.OK}, {func(h *api.House) { h.Elements[3] = sound(0, 1<<40+1, 1<<41) }, api.ErrRange}, {func(h *api.House) { h.Elements[3] = sound(0, 0, 1<<41+1) }, api.ErrRange}, {func(h *api.House) { h.Elements[3] = sound(0, 5, 4) }, api.ErrRange}, {func(h *api.House) { h.Elements[3] = sound(0, 5, 5) }, api.OK},
		{func(h *api.House) { h.Envelopes[1] = nil }, api.ErrShort}, {func(h *api.House) { h.Envelopes[1], h.Envelopes[2] = []int{4}, nil }, api.ErrOrder}, {func(h *api.House) { h.Envelopes[1], h.Envelopes[2] = nil, []int{4} }, api.ErrShort}, {func(h *api.House) { h.Envelopes[1] = []int{-1} }, api.ErrOrder}, {func(h *api.House) { h.Envelopes[1] = []int{1, 1} }, api.ErrOrder}, {func(h *api.House) { h.Envelopes[1] = []int{2, 1} }, api.ErrOrder}, {func(h *api.House) { h.Envelopes[1] = []int{0, 1, 2, 3} }, api.OK}, {func(h *api.House) { h.Envelopes[1] = []int{1 << 62} }, api.ErrOrder},
		{func(h *api.House) { h.Need = 0 }, api.ErrRange}, {func(h *api.House) { h.Need = 3 }, api.OK}, {func(h *api.House) { h.Need = 4 }, api.ErrRange}, {func(h *api.House) { h.Need, h.Envelopes[3] = 4, nil }, api.ErrShort},
	} {
		h := example()
		c.change(&h)
		if e := CheckHouse(h); e != c.e {
			t.Error(i, e, c.e)
		}
		if c.e == api.OK {
			continue
		}
		l, ok := Proof(h, 10, 1)
		n, lapses := Lapse(h, 10, 1)
		if Effective(h, 2, 10, 1) || Standing(h, 10, 1) != nil || l != nil || ok || Cuts(h, 10, 1) != nil || n != 0 || lapses {
			t.Error(i, "not valid")
		}
	}
}

func TestP9_1Effective(t *testing.T) {
	h := example()
	h.Elements[2].Tested = 5
	h.Elements = append(h.Elements, api.Element{State: api.Failed, Bears: 9000, Until: 100}, api.Element{State: api.Absent, Bears: 9000, Until: 100}, api.Element{State: api.Untested, Bears: 9000, Until: 100})
	for i, c := range []struct {
		n           int
		tick, press int64
		ok          bool
	}{
		{0, 0, 1000, true}, {0, 100, 1000, true}, {0, 101, 1000, false}, {0, 0, 1001, false}, {0, -1, 1000, false}, {2, 4, 1, false}, {2, 5, 1500, true}, {2, 50, 1, true}, {2, 51, 1, false}, {3, 0, 0, false}, {4, 5, 1, false}, {5, 5, 1, false}, {6, 5, 1, false}, {-1, 5, 1, false}, {7, 5, 1, false}, {0, 5, -1 << 63, true}, {0, 1<<63 - 1, 5, false},
	} {
		if ok := Effective(h, c.n, c.tick, c.press); ok != c.ok {
			t.Error(i, ok)
		}
	}
}

func TestP9_2Examples(t *testing.T) {
	h := example()
	one := example()
	one.Envelopes[0] = []int{0}
	three := api.House{Elements: slices.Repeat([]api.Element{sound(9, 0, 9)}, 4), Envelopes: [][]int{{0, 1}, {0}, {1}, {1, 2}, {2}, {3}}, Need: 3}
	for i, c := range []struct {
		h               api.House
		tick, press     int64
		standing, proof []int
		cuts            [][]int
		lapse           int64
	}{
		{h: h, tick: 10, press: 1000, standing: []int{0, 1, 2}, proof: []int{0, 2}, cuts: [][]int{{0}, {1}, {2}}, lapse: 51}, {h: h, tick: 10, press: 1001, standing: []int{1, 2}}, {h: h, tick: 51, press: 1000, standing: []int{0}}, {h: h, tick: 50, press: 1000, standing: []int{0, 1, 2}, proof: []int{0, 2}, cuts: [][]int{{0}, {1}, {2}}, lapse: 51},
		{h: one, tick: 10, press: 1000, standing: []int{0, 1, 2}, proof: []int{0, 1}, cuts: [][]int{{0}, {2}}, lapse: 51}, {h: three, tick: 0, press: 0, standing: []int{0, 1, 2, 3, 4, 5}, proof: []int{0, 4, 5}, cuts: [][]int{{0, 1}, {0, 2}, {0, 3}, {1, 2}, {1, 3}, {2, 3}}, lapse: 10},
	} {
		proof, ok := Proof(c.h, c.tick, c.press)
		lapse, lapses := Lapse(c.h, c.tick, c.press)
		if l := Standing(c.h, c.tick, c.press); !slices.Equal(l, c.standing) {
			t.Error(i, "Standing", l)
		}
		if !slices.Equal(proof, c.proof) || ok != (c.proof != nil) || lapse != c.lapse || lapses != ok {
			t.Error(i, proof, ok, lapse, lapses)
		}
		if l := Cuts(c.h, c.tick, c.press); !slices.EqualFunc(l, c.cuts, slices.Equal) {
			t.Error(i, "Cuts", l)
		}
	}
	for _, tick := range []int64{-1, 1<<40 + 1} {
		late := example()
		for i := range late.Elements {
			late.Elements[i].Until = 1 << 41
		}
		if n, ok := Lapse(late, tick, 1); n != 0 || ok {
			t.Error(tick, n, ok)
		}
		if n, ok := Lapse(late, 1<<40, 1); n != 1<<41+1 || !ok {
			t.Error(n, ok)
		}
	}
	// Somebody else's test comes later: the rule holds again, but it lapsed before.
	two := api.House{Elements: []api.Element{sound(5, 0, 10), sound(5, 20, 90)}, Envelopes: [][]int{{0}, {1}}, Need: 1}
	if n, ok := Lapse(two, 5, 5); n != 11 || !ok {
		t.Error(n, ok)
	}
	two.Elements[1].Tested = 11
	if n, ok := Lapse(two, 5, 5); n != 91 || !ok {
		t.Error(n, ok)
	}
}

// randomHouse is one with small numbers.
func randomHouse(roll func(int64) int64) api.House {
	h := api.House{Need: int(1 + roll(3))}
	for range 1 + roll(7) {
		x := sound(roll(20), roll(10), 0)
		x.Until = x.Tested + roll(40)
		if roll(5) == 0 {
			x.State = int(roll(4))
		}
		h.Elements = append(h.Elements, x)
	}
	for range roll(9) {
		var l []int
		for i := range h.Elements {
			if roll(3) == 0 {
				l = append(l, i)
			}
		}
		if l != nil {
			h.Envelopes = append(h.Envelopes, l)
		}
	}
	return h
}

// ruleHolds looks at all sets of envelopes.
func ruleHolds(h api.House, tick, press int64) bool {
	for set := range 1 << len(h.Envelopes) {
		used := map[int]bool{}
		count, fits := 0, true
		for n, l := range h.Envelopes {
			if set>>n&1 == 0 {
				continue
			}
			count++
			for _, i := range l {
				x := h.Elements[i]
				fits = fits && !used[i] && x.State == api.Sound && x.Tested <= tick && tick <= x.Until && x.Bears >= press
				used[i] = true
			}
		}
		if fits && count == h.Need {
			return true
		}
	}
	return false
}

// without is the house after these elements failed.
func without(h api.House, l ...int) api.House {
	h.Elements = slices.Clone(h.Elements)
	for _, i := range l {
		h.Elements[i].State = api.Failed
	}
	return h
}

// TestP9_7 compares with all sets of elements: P9.6, P9.7 and P9.8.
func TestP9_7(t *testing.T) {
	roll := dice(97)
	held, cut := 0, 0
	for range 500 {
		h := randomHouse(roll)
		tick, press := roll(20), roll(12)
		l, ok := Proof(h, tick, press)
		if ok != ruleHolds(h, tick, press) {
			t.Fatal(h, tick, press, ok)
		}
		cuts := Cuts(h, tick, press)
		end, lapses := Lapse(h, tick, press)
		if !ok {
			if l != nil || cuts != nil || lapses || end != 0 {
				t.Fatal("without a rule", l, cuts, end)
			}
			continue
		}
		held++
		used := map[int]bool{}
		stand := Standing(h, tick, press)
		for i, n := range l {
			if !slices.Contains(stand, n) || i > 0 && n <= l[i-1] {
				t.Fatal("P9.6", l, stand)
			}
			for _, x := range h.Envelopes[n] {
				if used[x] {
					t.Fatal("P9.6", l)
				}
				used[x] = true
			}
		}
		var want [][]int
		for size := 1; size <= len(h.Elements); size++ {
			var sized [][]int
			for s := range 1 << len(h.Elements) {
				l := set(s).elements()
				if len(l) != size || ruleHolds(without(h, l...), tick, press) {
					continue
				}
				lesser := true
				for i := range l {
					lesser = lesser && ruleHolds(without(h, slices.Delete(slices.Clone(l), i, i+1)...), tick, press)
				}
				if lesser {
					sized = append(sized, l)
				}
			}
			slices.SortFunc(sized, slices.Compare)
			want = append(want, sized...)
		}
		if !slices.EqualFunc(cuts, want, slices.Equal) {
			t.Fatal("P9.7", cuts, want)
		}
		cut += len(cuts)
		if ruleHolds(h, tick, press+1) && !ruleHolds(h, tick, press) {
			t.Fatal("P9.8")
		}
		for x := tick; x < end; x++ {
			if !ruleHolds(h, x, press) {
				t.Fatal("P9.8", x, end)
			}
		}
		if ruleHolds(h, end, press) {
			t.Fatal("P9.8, at the lapse")
		}
	}
	if held < 50 || cut < 100 {
		t.Error(held, cut)
	}
}

// TestP9_1Proof checks that the proof is the first one.
func TestP9_1Proof(t *testing.T) {
	roll := dice(91)
	for range 300 {
		h := randomHouse(roll)
		l, ok := Proof(h, 5, 3)
		if !ok {
			continue
		}
		stand := Standing(h, 5, 3)
		for s := range 1 << len(stand) {
			var other []int
			used := map[int]bool{}
			fits := true
			for i, n := range stand {
				if s>>i&1 == 1 {
					other = append(other, n)
					for _, x := range h.Envelopes[n] {
						fits = fits && !used[x]
						used[x] = true
					}
				}
			}
			if fits && len(other) == h.Need && slices.Compare(other, l) < 0 {
				t.Fatal(other, l)
			}
		}
	}
}
