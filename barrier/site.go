package barrier

import (
	"slices"

	"moonpool/api"
	"moonpool/whole"
)

// maxOp is the greatest number of an operation.
const maxOp = api.MaxOps - 1

// isCrew reports whether somebody is one of the crew.
func isCrew(s api.Site, who int) bool {
	return 0 <= who && who < s.Crew
}

func isOp(op int) bool {
	return 0 <= op && op <= maxOp
}

// checkCommand returns ErrRange because of the numbers of a site beside its house, its permits and Broken.
func checkCommand(s api.Site) api.Errno {
	if !whole.Within(s.Tick, 0, api.MaxTick) || s.Crew < 1 || s.Crew > api.MaxCrew || !isCrew(s, s.Holder) ||
		s.Offer != -1 && !isCrew(s, s.Offer) || s.Offer == s.Holder || !whole.Within(s.Press, 0, api.MaxPress) {
		return api.ErrRange
	}
	return api.OK
}

// checkPermits returns the first error of the permits of a site.
func checkPermits(s api.Site) api.Errno {
	if len(s.Permits) > api.MaxOps {
		return api.ErrFull
	}
	last := -1
	for _, p := range s.Permits {
		if p.Op <= last || p.Op > maxOp {
			return api.ErrOrder
		}
		last = p.Op
	}
	for _, p := range s.Permits {
		if !isCrew(s, p.Who) || !whole.Within(p.Until, 0, maxUntil) {
			return api.ErrRange
		}
	}
	return api.OK
}

// works reports whether an operation goes on.
func works(s api.Site) bool {
	return slices.ContainsFunc(s.Permits, func(p api.Permit) bool { return p.Open })
}

// protected reports whether the rule holds for a site at a tick.
func protected(s api.Site, tick int64) bool {
	return holds(s.House, effective(s.House, tick, s.Press))
}

// Check returns the first error of a site.
func Check(s api.Site) api.Errno {
	if e := checkCommand(s); e != api.OK {
		return e
	}
	if e := CheckHouse(s.House); e != api.OK {
		return e
	}
	if e := checkPermits(s); e != api.OK {
		return e
	}
	if !works(s) || protected(s, s.Tick) {
		if s.Broken != -1 {
			return api.ErrState
		}
		return api.OK
	}
	if !whole.Within(s.Broken, 0, s.Tick) {
		return api.ErrState
	}
	return api.OK
}

// Same reports whether two sites are equal in everything.
func Same(a, b api.Site) bool {
	return a.Tick == b.Tick && a.Crew == b.Crew && a.Holder == b.Holder && a.Offer == b.Offer && a.Press == b.Press && a.Broken == b.Broken &&
		a.House.Need == b.House.Need && slices.Equal(a.House.Elements, b.House.Elements) &&
		slices.EqualFunc(a.House.Envelopes, b.House.Envelopes, slices.Equal) && slices.Equal(a.Permits, b.Permits)
}

// Copy returns an equal site that shares no memory with s.
func Copy(s api.Site) api.Site {
	s.House.Elements, s.House.Envelopes, s.Permits = slices.Clone(s.House.Elements), slices.Clone(s.House.Envelopes), slices.Clone(s.Permits)
	for i, envelope := range s.House.Envelopes {
		s.House.Envelopes[i] = slices.Clone(envelope)
	}
	return s
}
