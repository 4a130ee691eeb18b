package fluid

import (
	"moonpool/api"
	"moonpool/earth"
	"moonpool/whole"
)

// CheckColumn returns the first error of a column in a hole.
func CheckColumn(h api.Hole, l []api.Slug) api.Errno {
	if e := CheckHole(h); e != api.OK {
		return e
	}
	if len(l) == 0 {
		return api.ErrShort
	}
	if len(l) > api.MaxSlugs {
		return api.ErrFull
	}
	sum := int64(0)
	for _, s := range l {
		if !whole.Within(s.Weight, 0, api.MaxWeight) || s.Volume < 1 {
			return api.ErrRange
		}
		sum = whole.Sum(sum, s.Volume)
	}
	if sum < Volume(h) {
		return api.ErrShort
	}
	if sum > Volume(h) {
		return api.ErrLong
	}
	return api.OK
}

// Plain returns the slugs with one slug for neighbours of the same weight.
func Plain(l []api.Slug) []api.Slug {
	var plain []api.Slug
	for _, s := range l {
		last := len(plain) - 1
		switch {
		case !whole.Within(s.Volume, 1, api.MaxVolume):
		case last >= 0 && plain[last].Weight == s.Weight:
			plain[last].Volume += s.Volume
		default:
			plain = append(plain, s)
		}
	}
	return plain
}

// add adds a weight, which may be below 0, times a height to an enclosure.
func add(r api.Range, weight int64, height api.Range) api.Range {
	if weight < 0 {
		height.Lo, height.Hi = height.Hi, height.Lo
	}
	return api.Range{Lo: r.Lo + weight*height.Lo, Hi: r.Hi + weight*height.Hi}
}

// head is the place and the height at the top of a hole with this height line.
func head(heights api.Line) api.Knot {
	return heights.Knots[len(heights.Knots)-1]
}

// press is the enclosure of the pressure at a place of a valid column.
func press(h api.Hole, l []api.Slug, surface, u int64) api.Range {
	heights := Height(h)
	upper := l[len(l)-1].Weight
	full := surface + upper*head(heights).V
	sum := api.Range{Lo: full, Hi: full}
	weight, boundary := upper, head(heights).At
	for i := len(l) - 1; i > 0; i-- {
		boundary -= l[i].Volume
		if boundary <= u {
			break
		}
		weight = l[i-1].Weight
		sum = add(sum, weight-l[i].Weight, earth.At(heights, boundary))
	}
	return add(sum, -weight, earth.At(heights, u))
}

// Press returns the enclosure of the pressure at the place u.
func Press(h api.Hole, l []api.Slug, top, u int64) (api.Range, api.Errno) {
	if e := CheckColumn(h, l); e != api.OK {
		return api.Range{}, e
	}
	if !whole.Within(top, 0, api.MaxPress) || !isPlace(h, u) {
		return api.Range{}, api.ErrRange
	}
	return press(h, l, top, u), api.OK
}

// Pump returns the column after a slug was pumped in at the bottom, and what came out at the top.
func Pump(h api.Hole, l []api.Slug, s api.Slug) (now, out []api.Slug, e api.Errno) {
	if e := CheckColumn(h, l); e != api.OK {
		return nil, nil, e
	}
	if !whole.Within(s.Weight, 0, api.MaxWeight) || !whole.Within(s.Volume, 1, Volume(h)) {
		return nil, nil, api.ErrRange
	}
	left := Volume(h) - s.Volume
	stays := func(volume int64) int64 {
		kept := min(volume, left)
		left -= kept
		return kept
	}
	now = []api.Slug{s}
	for _, x := range l {
		kept := stays(x.Volume)
		now = append(now, api.Slug{Weight: x.Weight, Volume: kept})
		out = append(out, api.Slug{Weight: x.Weight, Volume: x.Volume - kept})
	}
	now, out = Plain(now), Plain(out)
	if len(now) > api.MaxSlugs {
		return nil, nil, api.ErrFull
	}
	return now, out, api.OK
}

// Equivalent returns the enclosure of the pressure at the place u, divided by its depth.
func Equivalent(h api.Hole, l []api.Slug, top, u int64) (api.Range, api.Errno) {
	p, e := Press(h, l, top, u)
	if e != api.OK {
		return api.Range{}, e
	}
	heights := Height(h)
	depth := add(api.Range{Lo: head(heights).V, Hi: head(heights).V}, -1, earth.At(heights, u))
	if depth.Hi == 0 {
		return api.Range{}, api.ErrRange
	}
	return api.Range{
		Lo: whole.Floor(max(0, p.Lo), depth.Hi),
		Hi: whole.Ceil(max(0, p.Hi), max(1, depth.Lo)),
	}, api.OK
}
