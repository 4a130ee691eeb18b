package barrier

import (
	"slices"
	"testing"

	"moonpool/api"
)

// site is one with the house of the chapter, a crew of 3, and the holder 0.
func site() api.Site {
	return api.Site{Crew: 3, Offer: -1, Press: 1000, House: example(), Broken: -1}
}

func entry(tick int64, kind, who, at, to int, n int64) api.Entry {
	return api.Entry{Tick: tick, Kind: kind, Who: who, At: at, To: to, N: n}
}

// working is a site at which the operation 5 of 2 goes on since 10.
func working() api.Site {
	s := site()
	s.Tick = 10
	s.Permits = []api.Permit{{Op: 5, Who: 2, Until: 20, Open: true}}
	return s
}

func TestP9_3Check(t *testing.T) {
	permits := func(l ...api.Permit) func(s *api.Site) { return func(s *api.Site) { s.Permits = l } }
	var many []api.Permit
	for i := range 17 {
		many = append(many, api.Permit{Op: i})
	}
	for i, c := range []struct {
		change func(s *api.Site)
		e      api.Errno
	}{
		{func(s *api.Site) {}, api.OK}, {func(s *api.Site) { s.Tick = -1 }, api.ErrRange}, {func(s *api.Site) { s.Tick = 1 << 40 }, api.OK}, {func(s *api.Site) { s.Tick = 1<<40 + 1 }, api.ErrRange}, {func(s *api.Site) { s.Crew, s.House.Elements = 0, nil }, api.ErrRange}, {func(s *api.Site) { s.Crew = 20 }, api.OK}, {func(s *api.Site) { s.Crew = 21 }, api.ErrRange}, {func(s *api.Site) { s.Crew = 1 }, api.OK},
		{func(s *api.Site) { s.Holder = 3 }, api.ErrRange}, {func(s *api.Site) { s.Holder = -1 }, api.ErrRange}, {func(s *api.Site) { s.Holder = 2 }, api.OK}, {func(s *api.Site) { s.Offer = 0 }, api.ErrRange}, {func(s *api.Site) { s.Offer = -2 }, api.ErrRange}, {func(s *api.Site) { s.Offer = 3 }, api.ErrRange}, {func(s *api.Site) { s.Offer = 2 }, api.OK}, {func(s *api.Site) { s.Press = -1 }, api.ErrRange}, {func(s *api.Site) { s.Press = 1 << 36 }, api.OK}, {func(s *api.Site) { s.Press = 1<<36 + 1 }, api.ErrRange},
		{func(s *api.Site) { s.House.Need, s.Permits = 0, many }, api.ErrRange}, {func(s *api.Site) { s.House.Elements[0].State, s.Permits = 7, many }, api.ErrKind},
		{permits(many...), api.ErrFull}, {permits(many[:16]...), api.OK}, {permits(many[16]), api.ErrOrder}, {permits(api.Permit{Op: -1}), api.ErrOrder}, {permits(api.Permit{Op: 3}, api.Permit{Op: 3}), api.ErrOrder}, {permits(api.Permit{Op: 3, Who: 9}, api.Permit{Op: 2}), api.ErrOrder}, {permits(api.Permit{Op: 15}), api.OK},
		{permits(api.Permit{Who: 3}), api.ErrRange}, {permits(api.Permit{Who: -1}), api.ErrRange}, {permits(api.Permit{Until: -1}), api.ErrRange}, {permits(api.Permit{Until: 1 << 41}), api.OK}, {permits(api.Permit{Until: 1<<41 + 1}), api.ErrRange}, {func(s *api.Site) { s.Permits, s.Broken = []api.Permit{{Who: 3}}, 5 }, api.ErrRange},
		{func(s *api.Site) { s.Broken = 0 }, api.ErrState}, {func(s *api.Site) { s.Broken = -2 }, api.ErrState}, {permits(api.Permit{Open: true}), api.OK}, {func(s *api.Site) { s.Permits, s.Broken = []api.Permit{{Open: true}}, 0 }, api.ErrState},
		{func(s *api.Site) { s.Press, s.Tick, s.Broken = 1001, 9, -1 }, api.OK}, {func(s *api.Site) { s.Press, s.Tick, s.Broken = 1001, 9, 5 }, api.ErrState}, {func(s *api.Site) { s.Press, s.Tick, s.Permits = 1001, 9, []api.Permit{{Open: true}} }, api.ErrState},
		{func(s *api.Site) { s.Press, s.Tick, s.Permits, s.Broken = 1001, 9, []api.Permit{{Open: true}}, 9 }, api.OK}, {func(s *api.Site) { s.Press, s.Tick, s.Permits, s.Broken = 1001, 9, []api.Permit{{Open: true}}, 0 }, api.OK}, {func(s *api.Site) { s.Press, s.Tick, s.Permits, s.Broken = 1001, 9, []api.Permit{{Open: true}}, 10 }, api.ErrState}, {func(s *api.Site) { s.Tick, s.Permits, s.Broken = 51, []api.Permit{{Open: true}}, 51 }, api.OK},
	} {
		s := site()
		c.change(&s)
		if e := Check(s); e != c.e {
			t.Error(i, e, c.e)
		}
		if c.e == api.OK {
			continue
		}
		x, e := Do(s, api.Entry{Tick: -1})
		y, n, f := Run(s, make([]api.Entry, 201))
		b, g := Log(s, make([]api.Entry, 201))
		if e != c.e || f != c.e || g != c.e || b != "" || n != 0 || !Same(x, api.Site{}) || !Same(y, api.Site{}) {
			t.Error(i, "not valid", e, f, g)
		}
	}
}

func TestP9_3Do(t *testing.T) {
	for i, c := range []struct {
		s    func() api.Site
		e    api.Entry
		want api.Errno
	}{
		{site, entry(-1, 0, -1, 0, 0, 0), api.ErrRange}, {site, entry(1<<40+1, api.EntryInstall, 0, 3, 0, 0), api.ErrRange}, {working, entry(9, 0, -1, 0, 0, 0), api.ErrOrder}, {working, entry(10, 0, 3, 0, 0, 0), api.ErrRange}, {working, entry(10, 0, -1, 0, 0, 0), api.ErrRange}, {site, entry(0, 0, 0, 0, 0, 0), api.ErrKind}, {site, entry(0, 11, 0, 0, 0, 0), api.ErrKind}, {site, entry(0, -1<<63, 0, 0, 0, 0), api.ErrKind},
		{site, entry(0, api.EntryInstall, 2, 4, 0, 0), api.ErrRange}, {site, entry(0, api.EntryInstall, 2, -1, 0, 0), api.ErrRange}, {site, entry(0, api.EntryInstall, 2, 3, 0, 0), api.ErrState}, {site, entry(0, api.EntryInstall, 2, 0, 0, 0), api.ErrState}, {ruined, entry(0, api.EntryInstall, 2, 0, 0, 0), api.OK}, {ruined, entry(0, api.EntryInstall, 2, 1, 0, 0), api.OK},
		{site, entry(0, api.EntryTest, 2, 4, 1, 1), api.ErrRange}, {site, entry(0, api.EntryTest, 2, 3, 1, 0), api.ErrRange}, {site, entry(0, api.EntryTest, 2, 3, 1, 1<<36), api.OK}, {site, entry(0, api.EntryTest, 2, 3, 1, 1<<36+1), api.ErrRange}, {site, entry(0, api.EntryTest, 2, 3, 0, 1), api.ErrRange}, {site, entry(0, api.EntryTest, 2, 3, 1<<24, 1), api.OK}, {site, entry(0, api.EntryTest, 2, 3, 1<<24+1, 1), api.ErrRange}, {site, entry(0, api.EntryTest, 2, 0, 1, 1), api.OK}, {ruined, entry(0, api.EntryTest, 2, 0, 1, 1), api.ErrState}, {ruined, entry(0, api.EntryTest, 2, 1, 1, 1), api.ErrState}, {ruined, entry(0, api.EntryTest, 2, 1, 0, 1), api.ErrRange},
		{site, entry(0, api.EntryFail, 2, 4, 0, 0), api.ErrRange}, {site, entry(0, api.EntryFail, 2, 3, 0, 0), api.OK}, {site, entry(0, api.EntryFail, 2, 0, 0, 0), api.OK}, {ruined, entry(0, api.EntryFail, 2, 0, 0, 0), api.ErrState}, {ruined, entry(0, api.EntryFail, 2, 1, 0, 0), api.ErrState},
		{site, entry(0, api.EntryRemove, 2, -1, 0, 0), api.ErrRange}, {site, entry(0, api.EntryRemove, 2, 0, 0, 0), api.OK}, {ruined, entry(0, api.EntryRemove, 2, 0, 0, 0), api.ErrState}, {ruined, entry(0, api.EntryRemove, 2, 1, 0, 0), api.OK}, {working, entry(10, api.EntryRemove, 2, 0, 0, 0), api.ErrBarrier}, {working, entry(10, api.EntryRemove, 2, 3, 0, 0), api.OK}, {working, entry(51, api.EntryRemove, 2, 3, 0, 0), api.ErrBarrier},
		{site, entry(0, api.EntryPress, 1, 0, 0, -1), api.ErrState}, {site, entry(0, api.EntryPress, 0, 0, 0, -1), api.ErrRange}, {site, entry(0, api.EntryPress, 0, 0, 0, 1<<36+1), api.ErrRange}, {site, entry(0, api.EntryPress, 0, 0, 0, 1<<36), api.OK}, {working, entry(10, api.EntryPress, 0, 0, 0, 1001), api.ErrBarrier}, {working, entry(10, api.EntryPress, 0, 0, 0, 1000), api.OK}, {working, entry(51, api.EntryPress, 0, 0, 0, 0), api.ErrBarrier},
		{site, entry(0, api.EntryOffer, 1, 0, 9, 0), api.ErrState}, {site, entry(0, api.EntryOffer, 0, 0, 3, 0), api.ErrRange}, {site, entry(0, api.EntryOffer, 0, 0, -1, 0), api.ErrRange}, {site, entry(0, api.EntryOffer, 0, 0, 0, 0), api.ErrRange}, {site, entry(0, api.EntryOffer, 0, 0, 2, 0), api.OK},
		{site, entry(0, api.EntryTake, 1, 0, 0, 0), api.ErrState}, {offered, entry(0, api.EntryTake, 0, 0, 0, 0), api.ErrState}, {offered, entry(0, api.EntryTake, 2, 0, 0, 0), api.ErrState}, {offered, entry(0, api.EntryTake, 1, 0, 0, 0), api.OK},
		{site, entry(0, api.EntryPermit, 1, 99, 0, 0), api.ErrState}, {site, entry(0, api.EntryPermit, 0, -1, 0, 0), api.ErrRange}, {site, entry(0, api.EntryPermit, 0, 16, 0, 0), api.ErrRange}, {site, entry(0, api.EntryPermit, 0, 15, 3, 0), api.ErrRange}, {site, entry(0, api.EntryPermit, 0, 15, -1, 0), api.ErrRange}, {site, entry(5, api.EntryPermit, 0, 15, 0, 4), api.ErrRange}, {site, entry(5, api.EntryPermit, 0, 15, 0, 5), api.OK}, {site, entry(5, api.EntryPermit, 0, 0, 0, 1<<41), api.OK}, {site, entry(5, api.EntryPermit, 0, 0, 0, 1<<41+1), api.ErrRange}, {working, entry(10, api.EntryPermit, 0, 5, 0, 10), api.ErrExists}, {working, entry(10, api.EntryPermit, 0, 5, 0, 9), api.ErrRange}, {working, entry(10, api.EntryPermit, 0, 4, 0, 10), api.OK},
		{permitted, entry(0, api.EntryStart, 0, 5, 0, 0), api.ErrMissing}, {permitted, entry(0, api.EntryStart, 2, 4, 0, 0), api.ErrMissing}, {permitted, entry(0, api.EntryStart, 2, -1<<63, 0, 0), api.ErrMissing}, {permitted, entry(20, api.EntryStart, 2, 5, 0, 0), api.OK}, {permitted, entry(21, api.EntryStart, 2, 5, 0, 0), api.ErrLate}, {working, entry(21, api.EntryStart, 2, 5, 0, 0), api.ErrExists}, {working, entry(21, api.EntryStart, 1, 5, 0, 0), api.ErrMissing}, {bared, entry(20, api.EntryStart, 2, 5, 0, 0), api.ErrBarrier}, {bared, entry(21, api.EntryStart, 2, 5, 0, 0), api.ErrLate},
		{permitted, entry(0, api.EntryStop, 2, 5, 0, 0), api.ErrMissing}, {working, entry(10, api.EntryStop, 2, 4, 0, 0), api.ErrMissing}, {working, entry(10, api.EntryStop, 1, 4, 0, 0), api.ErrMissing}, {working, entry(10, api.EntryStop, 1, 5, 0, 0), api.ErrState}, {working, entry(10, api.EntryStop, 2, 5, 0, 0), api.OK}, {working, entry(10, api.EntryStop, 0, 5, 0, 0), api.OK},
	} {
		s := c.s()
		x, e := Do(s, c.e)
		if e != c.want || e != api.OK && !Same(x, api.Site{}) || !Same(s, c.s()) {
			t.Error(i, e, c.want)
		}
		if e == api.OK && (x.Tick != c.e.Tick || Check(x) != api.OK) {
			t.Error(i, "not valid then")
		}
		y, n, f := Run(s, []api.Entry{c.e})
		if e == api.OK && (!Same(x, y) || n != -1 || f != api.OK) || e != api.OK && (!Same(y, s) || n != 0 || f != e) {
			t.Error(i, "Run", n, f)
		}
	}
}

// ruined is a site whose first element is absent, and the second one failed.
func ruined() api.Site {
	s := site()
	s.House.Elements[0] = api.Element{}
	s.House.Elements[1].State = api.Failed
	return s
}

// offered is a site whose holder offered the command to 1.
func offered() api.Site {
	s := site()
	s.Offer = 1
	return s
}

// permitted is a site with a permit of 2 for the operation 5 until 20; at that of bared the rule does not hold.
func permitted() api.Site {
	s := site()
	s.Permits = []api.Permit{{Op: 5, Who: 2, Until: 20}}
	return s
}

func bared() api.Site {
	s := permitted()
	s.Press = 1001
	return s
}

func TestP9_3Results(t *testing.T) {
	for i, c := range []struct {
		s      func() api.Site
		e      api.Entry
		change func(s *api.Site)
	}{
		{ruined, entry(7, api.EntryInstall, 2, 1, 8, 9), func(s *api.Site) { s.House.Elements[1] = api.Element{State: api.Untested} }},
		{site, entry(7, api.EntryTest, 2, 3, 8, 9), func(s *api.Site) { s.House.Elements[3] = sound(9, 7, 15) }},
		{site, entry(7, api.EntryFail, 2, 1, 8, 9), func(s *api.Site) { s.House.Elements[1].State = api.Failed }},
		{site, entry(7, api.EntryRemove, 2, 1, 8, 9), func(s *api.Site) { s.House.Elements[1] = api.Element{} }},
		{site, entry(7, api.EntryPress, 0, 1, 8, 9), func(s *api.Site) { s.Press = 9 }},
		{site, entry(7, api.EntryOffer, 0, 1, 2, 9), func(s *api.Site) { s.Offer = 2 }}, {offered, entry(7, api.EntryOffer, 0, 1, 2, 9), func(s *api.Site) { s.Offer = 2 }},
		{offered, entry(7, api.EntryTake, 1, 1, 8, 9), func(s *api.Site) { s.Holder, s.Offer = 1, -1 }},
		{site, entry(7, api.EntryPermit, 0, 9, 2, 9), func(s *api.Site) { s.Permits = []api.Permit{{Op: 9, Who: 2, Until: 9}} }},
		{permitted, entry(7, api.EntryPermit, 0, 5, 1, 9), func(s *api.Site) { s.Permits = []api.Permit{{Op: 5, Who: 1, Until: 9}} }},
		{permitted, entry(7, api.EntryPermit, 0, 4, 1, 9), func(s *api.Site) { s.Permits = []api.Permit{{Op: 4, Who: 1, Until: 9}, {Op: 5, Who: 2, Until: 20}} }},
		{working, entry(17, api.EntryPermit, 0, 6, 1, 19), func(s *api.Site) {
			s.Permits = []api.Permit{{Op: 5, Who: 2, Until: 20, Open: true}, {Op: 6, Who: 1, Until: 19}}
		}},
		{permitted, entry(7, api.EntryStart, 2, 5, 2, 9), func(s *api.Site) { s.Permits[0].Open = true }},
		{working, entry(17, api.EntryStop, 0, 5, 2, 9), func(s *api.Site) { s.Permits[0].Open = false }},
		// What breaks the rule is recorded.
		{working, entry(20, api.EntryFail, 1, 2, 0, 0), func(s *api.Site) { s.House.Elements[2].State, s.Broken = api.Failed, 20 }},
		{working, entry(20, api.EntryTest, 1, 2, 9, 9), func(s *api.Site) { s.House.Elements[2], s.Broken = sound(9, 20, 29), 20 }},
		{working, entry(60, api.EntryOffer, 0, 0, 1, 0), func(s *api.Site) { s.Offer, s.Broken = 1, 51 }}, {working, entry(51, api.EntryOffer, 0, 0, 1, 0), func(s *api.Site) { s.Offer, s.Broken = 1, 51 }}, {working, entry(50, api.EntryOffer, 0, 0, 1, 0), func(s *api.Site) { s.Offer = 1 }},
		{working, entry(60, api.EntryFail, 0, 1, 0, 0), func(s *api.Site) { s.House.Elements[1].State, s.Broken = api.Failed, 51 }},
		{working, entry(60, api.EntryTest, 0, 2, 9, 1000), func(s *api.Site) { s.House.Elements[2] = sound(1000, 60, 69) }}, // it holds again
		{working, entry(60, api.EntryStop, 0, 5, 0, 0), func(s *api.Site) { s.Permits[0].Open = false }},
		{broke, entry(25, api.EntryOffer, 0, 0, 1, 0), func(s *api.Site) { s.Offer = 1 }}, {broke, entry(60, api.EntryFail, 0, 0, 1, 0), func(s *api.Site) { s.House.Elements[0].State = api.Failed }},
		{broke, entry(25, api.EntryInstall, 0, 2, 1, 0), func(s *api.Site) { s.House.Elements[2] = api.Element{State: api.Untested} }}, {broke, entry(25, api.EntryStop, 2, 5, 0, 0), func(s *api.Site) { s.Permits[0].Open, s.Broken = false, -1 }},
		{site, entry(60, api.EntryFail, 0, 1, 0, 0), func(s *api.Site) { s.House.Elements[1].State = api.Failed }},
	} {
		want := c.s()
		c.change(&want)
		want.Tick = c.e.Tick
		if x, e := Do(c.s(), c.e); e != api.OK || !Same(x, want) {
			t.Error(i, x, e)
		}
	}
	// The rule lapses, holds again by a later test, and is broken by the entry: it is broken since the lapse.
	s := working()
	s.House = api.House{Elements: []api.Element{sound(1000, 0, 11), sound(1000, 14, 90)}, Envelopes: [][]int{{0}, {1}}, Need: 1}
	if x, e := Do(s, entry(16, api.EntryFail, 0, 1, 0, 0)); e != api.OK || x.Broken != 12 {
		t.Error(x, e)
	}
	if x, e := Do(s, entry(16, api.EntryFail, 0, 0, 0, 0)); e != api.OK || x.Broken != -1 {
		t.Error(x, e)
	}
}

// TestP9_12 does entries with an error at a site, alone and among others.
func TestP9_12(t *testing.T) {
	roll := dice(912)
	refused := 0
	for range 300 {
		s := api.Site{Crew: 3, Offer: -1, Press: roll(5), House: randomHouse(roll), Broken: -1}
		var l []api.Entry
		for range 30 {
			e := randomEntry(roll, s)
			before := Copy(s)
			x, err := Do(s, e)
			if !Same(s, before) {
				t.Fatal("the site is changed", e)
			}
			y, n, f := Run(s, []api.Entry{e})
			if err == api.OK {
				l = append(l, e)
				s = x
				continue
			}
			refused++
			if !Same(y, s) || n != 0 || f != err || !Same(x, api.Site{}) {
				t.Fatal("an entry with an error changes something", e, n, f)
			}
			if z, n, f := Run(s, append([]api.Entry{entry(s.Tick, api.EntryFail, 0, -1, 0, 0)}, l...)); !Same(z, s) || n != 0 || f != api.ErrRange {
				t.Fatal("an entry after one with an error is done", n, f)
			}
		}
	}
	if refused < 1000 {
		t.Error(refused)
	}
}

// broke is a site at which an operation goes on without barriers since 20.
func broke() api.Site {
	s := working()
	s.Tick, s.Broken = 22, 20
	s.House.Elements[2].State = api.Failed
	return s
}

func TestP9_3Run(t *testing.T) {
	l := []api.Entry{entry(1, api.EntryPermit, 0, 5, 2, 20), entry(10, api.EntryStart, 2, 5, 0, 0), entry(12, api.EntryStart, 2, 5, 0, 0), entry(13, api.EntryStop, 2, 5, 0, 0)}
	s, n, e := Run(site(), l)
	if want := working(); !Same(s, want) || n != 2 || e != api.ErrExists {
		t.Error(s, n, e)
	}
	if s, n, e := Run(site(), l[:2]); !Same(s, working()) || n != -1 || e != api.OK {
		t.Error(s, n, e)
	}
	start := site()
	s, n, e = Run(start, nil)
	if !Same(s, site()) || n != -1 || e != api.OK {
		t.Error(s, n, e)
	}
	s.House.Elements[0].Bears, s.House.Envelopes[0][0] = 7, 1
	if !Same(start, site()) {
		t.Error("memory is shared")
	}
	most := slices.Repeat([]api.Entry{entry(5, api.EntryOffer, 0, 0, 1, 0)}, 201)
	if _, n, e := Run(site(), most[:200]); n != -1 || e != api.OK {
		t.Error(n, e)
	}
	if s, n, e := Run(site(), most); n != 0 || e != api.ErrFull || !Same(s, api.Site{}) {
		t.Error(n, e)
	}
}

// randomEntry is one that may or may not be done at a site.
func randomEntry(roll func(int64) int64, s api.Site) api.Entry {
	tick := s.Tick + roll(3)
	switch roll(6) {
	case 0:
		return entry(tick, api.EntryPermit, s.Holder, int(roll(3)), int(roll(3)), tick+roll(20))
	case 1:
		return entry(tick, api.EntryTest, 0, int(roll(5)), int(5+roll(30)), 10+roll(20))
	case 2:
		if len(s.Permits) > 0 {
			p := s.Permits[roll(int64(len(s.Permits)))]
			return entry(tick, api.EntryStart, p.Who, p.Op, 0, 0)
		}
	}
	return entry(tick, int(1+roll(10)), int(roll(3)), int(roll(5)), int(roll(3)+roll(2)*roll(40)), roll(2)*roll(60)+roll(20))
}

// TestP9_13 does random entries: P9.9 to P9.13.
func TestP9_13(t *testing.T) {
	roll := dice(913)
	done, opened, breaks := 0, 0, 0
	for range 300 {
		s := api.Site{Crew: 3, Offer: -1, Press: roll(5), House: randomHouse(roll), Broken: -1}
		first := Copy(s)
		var l []api.Entry
		for range 60 {
			e := randomEntry(roll, s)
			x, err := Do(s, e)
			if err != api.OK {
				continue
			}
			done++
			l = append(l, e)
			if Check(x) != api.OK {
				t.Fatal("P9.13", x)
			}
			if x.Holder != s.Holder && (e.Kind != api.EntryTake || x.Holder != s.Offer || e.Who != s.Offer) {
				t.Fatal("P9.9")
			}
			ruled := ruleHolds(x.House, x.Tick, x.Press)
			if e.Kind == api.EntryStart {
				opened++
				i := slices.IndexFunc(s.Permits, func(p api.Permit) bool { return p.Op == e.At })
				if i < 0 || s.Permits[i].Who != e.Who || s.Permits[i].Until < e.Tick || !ruled {
					t.Fatal("P9.10")
				}
			}
			if (x.Broken >= 0) != (works(x) && !ruled) {
				t.Fatal("P9.10", x)
			}
			if x.Broken >= 0 && s.Broken < 0 {
				breaks++
				lapsed := !ruleHolds(s.House, e.Tick, s.Press)
				for tick := s.Tick; tick < x.Broken; tick++ {
					if !ruleHolds(s.House, tick, s.Press) {
						t.Fatal("broken before", tick, x.Broken)
					}
				}
				if !lapsed && e.Kind != api.EntryFail && e.Kind != api.EntryTest {
					t.Fatal("P9.10", e)
				}
			}
			s = x
		}
		x, n, e := Run(first, l)
		if !Same(x, s) || n != -1 || e != api.OK {
			t.Fatal("P9.11", n, e)
		}
		half := len(l) / 2
		y, _, _ := Run(first, l[:half])
		y, _, _ = Run(y, l[half:])
		if !Same(y, s) {
			t.Fatal("P9.11, in two parts")
		}
		b, e := Log(first, l)
		z, m, f := Read(b)
		if e != api.OK || f != api.OK || !Same(z, first) || !slices.Equal(m, l) {
			t.Fatal("P9.11, the log", e, f)
		}
		if z, n, e := Replay(b); !Same(z, s) || n != -1 || e != api.OK {
			t.Fatal("P9.11, the replay", n, e)
		}
	}
	if done < 2000 || opened < 50 || breaks < 20 {
		t.Error(done, opened, breaks)
	}
}

func TestP9_5SameCopy(t *testing.T) {
	for i, change := range []func(s *api.Site){
		func(s *api.Site) { s.Tick++ }, func(s *api.Site) { s.Crew++ }, func(s *api.Site) { s.Holder++ }, func(s *api.Site) { s.Offer++ }, func(s *api.Site) { s.Press++ }, func(s *api.Site) { s.Broken++ }, func(s *api.Site) { s.House.Need++ }, func(s *api.Site) { s.House.Elements[2].Until++ }, func(s *api.Site) { s.House.Envelopes[1][0]++ }, func(s *api.Site) { s.House.Envelopes = nil }, func(s *api.Site) { s.Permits[0].Open = false }, func(s *api.Site) { s.Permits = nil }, func(s *api.Site) { s.House.Elements = s.House.Elements[:3] },
	} {
		a := working()
		b := Copy(a)
		if !Same(a, b) {
			t.Error(i, "a copy is not the same")
		}
		change(&b)
		if Same(a, b) || !Same(a, working()) {
			t.Error(i, "a change is not seen, or seen in both")
		}
	}
	odd := api.Site{Tick: -5, Permits: []api.Permit{}, House: api.House{Elements: []api.Element{}, Envelopes: [][]int{{}}}}
	if !Same(odd, api.Site{Tick: -5, House: api.House{Envelopes: [][]int{nil}}}) || !Same(Copy(odd), odd) {
		t.Error("nil and empty lists differ")
	}
}
