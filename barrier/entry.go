package barrier

import (
	"cmp"
	"slices"

	"moonpool/api"
	"moonpool/whole"
)

// action does an entry at a site, or returns its error.
type action func(s *api.Site, e api.Entry) api.Errno

// actions are those of all kinds of entries.
func actions() map[int]action {
	return map[int]action{
		api.EntryInstall: install,
		api.EntryTest:    test,
		api.EntryFail:    fail,
		api.EntryRemove:  remove,
		api.EntryPress:   press,
		api.EntryOffer:   offer,
		api.EntryTake:    take,
		api.EntryPermit:  permit,
		api.EntryStart:   start,
		api.EntryStop:    stop,
	}
}

// element is that which an entry is about, nil if there is none.
func element(s *api.Site, e api.Entry) *api.Element {
	if e.At < 0 || e.At >= len(s.House.Elements) {
		return nil
	}
	return &s.House.Elements[e.At]
}

// isIn reports whether an element is untested or sound.
func isIn(x *api.Element) bool {
	return x.State == api.Untested || x.State == api.Sound
}

func install(s *api.Site, e api.Entry) api.Errno {
	x := element(s, e)
	if x == nil {
		return api.ErrRange
	}
	if x.State != api.Absent && x.State != api.Failed {
		return api.ErrState
	}
	*x = api.Element{State: api.Untested}
	return api.OK
}

func test(s *api.Site, e api.Entry) api.Errno {
	x := element(s, e)
	if x == nil || !whole.Within(e.N, 1, api.MaxPress) || !whole.Within(int64(e.To), 1, api.MaxValid) {
		return api.ErrRange
	}
	if !isIn(x) {
		return api.ErrState
	}
	*x = api.Element{State: api.Sound, Bears: e.N, Tested: e.Tick, Until: e.Tick + int64(e.To)}
	return api.OK
}

func fail(s *api.Site, e api.Entry) api.Errno {
	x := element(s, e)
	if x == nil {
		return api.ErrRange
	}
	if !isIn(x) {
		return api.ErrState
	}
	x.State = api.Failed
	return api.OK
}

func remove(s *api.Site, e api.Entry) api.Errno {
	x := element(s, e)
	if x == nil {
		return api.ErrRange
	}
	if x.State == api.Absent {
		return api.ErrState
	}
	*x = api.Element{}
	return bare(*s, e.Tick)
}

// bare returns ErrBarrier if an operation goes on at a site while the rule does not hold at a tick.
func bare(s api.Site, tick int64) api.Errno {
	if works(s) && !protected(s, tick) {
		return api.ErrBarrier
	}
	return api.OK
}

func press(s *api.Site, e api.Entry) api.Errno {
	if e.Who != s.Holder {
		return api.ErrState
	}
	if !whole.Within(e.N, 0, api.MaxPress) {
		return api.ErrRange
	}
	s.Press = e.N
	return bare(*s, e.Tick)
}

func offer(s *api.Site, e api.Entry) api.Errno {
	if e.Who != s.Holder {
		return api.ErrState
	}
	if !isCrew(*s, e.To) || e.To == s.Holder {
		return api.ErrRange
	}
	s.Offer = e.To
	return api.OK
}

func take(s *api.Site, e api.Entry) api.Errno {
	if e.Who != s.Offer {
		return api.ErrState
	}
	s.Holder, s.Offer = e.Who, -1
	return api.OK
}

// find is where the permit for an operation is, or would be, and whether there is one.
func find(s *api.Site, op int) (int, bool) {
	return slices.BinarySearchFunc(s.Permits, op, func(p api.Permit, op int) int { return cmp.Compare(p.Op, op) })
}

func permit(s *api.Site, e api.Entry) api.Errno {
	if e.Who != s.Holder {
		return api.ErrState
	}
	if !isOp(e.At) || !isCrew(*s, e.To) || !whole.Within(e.N, e.Tick, maxUntil) {
		return api.ErrRange
	}
	i, ok := find(s, e.At)
	if !ok {
		s.Permits = slices.Insert(s.Permits, i, api.Permit{})
	}
	if s.Permits[i].Open {
		return api.ErrExists
	}
	s.Permits[i] = api.Permit{Op: e.At, Who: e.To, Until: e.N}
	return api.OK
}

func start(s *api.Site, e api.Entry) api.Errno {
	i, ok := find(s, e.At)
	if !ok || s.Permits[i].Who != e.Who {
		return api.ErrMissing
	}
	if s.Permits[i].Open {
		return api.ErrExists
	}
	if e.Tick > s.Permits[i].Until {
		return api.ErrLate
	}
	if !protected(*s, e.Tick) {
		return api.ErrBarrier
	}
	s.Permits[i].Open = true
	return api.OK
}

func stop(s *api.Site, e api.Entry) api.Errno {
	i, ok := find(s, e.At)
	if !ok || !s.Permits[i].Open {
		return api.ErrMissing
	}
	if e.Who != s.Permits[i].Who && e.Who != s.Holder {
		return api.ErrState
	}
	s.Permits[i].Open = false
	return api.OK
}

// checkEntry returns the first error of an entry at a site, but for those of its kind.
func checkEntry(s api.Site, e api.Entry) api.Errno {
	if !whole.Within(e.Tick, 0, api.MaxTick) {
		return api.ErrRange
	}
	if e.Tick < s.Tick {
		return api.ErrOrder
	}
	if !isCrew(s, e.Who) {
		return api.ErrRange
	}
	return api.OK
}

// broken is since when an operation goes on without barriers, at a site after an entry.
func broken(before, after api.Site) int64 {
	switch {
	case bare(after, after.Tick) == api.OK:
		return -1
	case before.Broken != -1:
		return before.Broken
	case works(before):
		return min(after.Tick, lapse(before.House, before.Tick, before.Press))
	}
	return after.Tick
}

// do does an entry at a valid site.
func do(s api.Site, e api.Entry) (api.Site, api.Errno) {
	if err := checkEntry(s, e); err != api.OK {
		return api.Site{}, err
	}
	act, ok := actions()[e.Kind]
	if !ok {
		return api.Site{}, api.ErrKind
	}
	next := Copy(s)
	if err := act(&next, e); err != api.OK {
		return api.Site{}, err
	}
	next.Tick = e.Tick
	next.Broken = broken(s, next)
	return next, api.OK
}

// Do returns the site after an entry.
func Do(s api.Site, e api.Entry) (api.Site, api.Errno) {
	if err := Check(s); err != api.OK {
		return api.Site{}, err
	}
	return do(s, e)
}

// Run does entries up to the first one that has an error.
func Run(s api.Site, l []api.Entry) (api.Site, int, api.Errno) {
	if err := Check(s); err != api.OK {
		return api.Site{}, 0, err
	}
	if len(l) > api.MaxEntries {
		return api.Site{}, 0, api.ErrFull
	}
	now := Copy(s)
	for i, e := range l {
		next, err := do(now, e)
		if err != api.OK {
			return now, i, err
		}
		now = next
	}
	return now, -1, api.OK
}
