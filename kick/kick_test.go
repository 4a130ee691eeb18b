package kick

import (
	"testing"

	"moonpool/api"
)

// grown is the kick K of the chapter, a and b are its sensors A and B.
func grown() api.Kick { return api.Kick{Rate: 1000, Grow: 100} }

func a() api.Sensor {
	return api.Sensor{Channel: api.ChannelPit, Period: 10, Delay: 5, Noise: 2, Step: 1000, Lost: 1, Limit: 20000, Hold: 2}
}

func b() api.Sensor {
	return api.Sensor{Channel: api.ChannelFlow, Period: 1, Delay: 0, Noise: 0, Step: 1, Lost: 0, Limit: 3000, Hold: 1}
}

func span(lo, hi int64) api.Range { return api.Range{Lo: lo, Hi: hi} }

func kicks(rateLo, rateHi, growLo, growHi int64) api.Kicks {
	return api.Kicks{Rate: span(rateLo, rateHi), Grow: span(growLo, growHi)}
}

// dice returns numbers that look random: the same ones each time.
func dice(seed uint64) func(n int64) int64 {
	return func(n int64) int64 {
		seed = seed*6364136223846793005 + 1442695040888963407
		return int64(seed>>33) % n
	}
}

func TestP6_1Kick(t *testing.T) {
	for i, c := range []struct {
		k             api.Kick
		n, flow, gain int64
	}{
		{grown(), 3, 1300, 3300}, {grown(), 0, 1000, 0}, {grown(), 1, 1100, 1000}, {grown(), -1, 0, 0}, {grown(), 20000, 2001000, 20000*1000 + 100*199990000}, {grown(), 20001, 0, 0}, {grown(), -1 << 63, 0, 0},
		{api.Kick{Rate: 1 << 24, Grow: 4096}, 20000, 1<<24 + 81920000, 20000<<24 + 4096*199990000}, {api.Kick{Rate: 1<<24 + 1}, 3, 0, 0}, {api.Kick{Grow: 4097}, 3, 0, 0}, {api.Kick{Rate: -1}, 3, 0, 0}, {api.Kick{Grow: -1}, 3, 0, 0},
	} {
		if f, g := Flow(c.k, c.n), Gain(c.k, c.n); f != c.flow || g != c.gain {
			t.Error(i, f, g)
		}
	}
	for i, c := range []struct {
		x api.Kicks
		e api.Errno
	}{
		{kicks(0, 1<<24, 0, 4096), api.OK}, {kicks(5, 5, 7, 7), api.OK}, {kicks(6, 5, 7, 7), api.ErrRange}, {kicks(5, 5, 8, 7), api.ErrRange}, {kicks(-1, 5, 7, 7), api.ErrRange}, {kicks(5, 1<<24+1, 7, 7), api.ErrRange}, {kicks(5, 5, -1, 7), api.ErrRange}, {kicks(5, 5, 7, 4097), api.ErrRange}, {kicks(-1<<63, 1<<63-1, 0, 0), api.ErrRange},
	} {
		if e := CheckKicks(c.x); e != c.e {
			t.Error(i, e)
		}
	}
	for i, c := range []struct {
		k api.Kick
		e api.Errno
	}{
		{grown(), api.OK}, {api.Kick{}, api.OK}, {api.Kick{Rate: 1 << 24, Grow: 4096}, api.OK}, {api.Kick{Rate: 1<<24 + 1}, api.ErrRange}, {api.Kick{Rate: -1}, api.ErrRange}, {api.Kick{Grow: 4097}, api.ErrRange}, {api.Kick{Grow: -1}, api.ErrRange},
	} {
		if e := CheckKick(c.k); e != c.e {
			t.Error(i, e)
		}
	}
}

func TestP6_10(t *testing.T) {
	roll := dice(610)
	for range 50 {
		k := api.Kick{Rate: roll(1 << 24), Grow: roll(4097)}
		sum := int64(0)
		for n := range int64(200) {
			if Gain(k, n) != sum {
				t.Fatal(k, n, sum)
			}
			sum += Flow(k, n)
		}
	}
}

func TestP6_1Sensor(t *testing.T) {
	for i, c := range []struct {
		change func(s *api.Sensor)
		e      api.Errno
	}{
		{func(s *api.Sensor) {}, api.OK}, {func(s *api.Sensor) { s.Channel, s.Period = 0, 0 }, api.ErrKind}, {func(s *api.Sensor) { s.Channel = 3 }, api.ErrKind}, {func(s *api.Sensor) { s.Channel = 2 }, api.OK},
		{func(s *api.Sensor) { s.Period = 0 }, api.ErrRange}, {func(s *api.Sensor) { s.Period = 60 }, api.OK}, {func(s *api.Sensor) { s.Period = 61 }, api.ErrRange}, {func(s *api.Sensor) { s.Delay = -1 }, api.ErrRange}, {func(s *api.Sensor) { s.Delay = 600 }, api.OK}, {func(s *api.Sensor) { s.Delay = 601 }, api.ErrRange},
		{func(s *api.Sensor) { s.Noise = -1 }, api.ErrRange}, {func(s *api.Sensor) { s.Noise = 15 }, api.OK}, {func(s *api.Sensor) { s.Noise = 16 }, api.ErrRange}, {func(s *api.Sensor) { s.Step = 0 }, api.ErrRange}, {func(s *api.Sensor) { s.Step = 1 << 20 }, api.OK}, {func(s *api.Sensor) { s.Step = 1<<20 + 1 }, api.ErrRange},
		{func(s *api.Sensor) { s.Lost = -1 }, api.ErrRange}, {func(s *api.Sensor) { s.Lost = 5 }, api.OK}, {func(s *api.Sensor) { s.Lost = 6 }, api.ErrRange}, {func(s *api.Sensor) { s.Limit = 0 }, api.ErrRange}, {func(s *api.Sensor) { s.Limit = 1 << 40 }, api.OK}, {func(s *api.Sensor) { s.Limit = 1<<40 + 1 }, api.ErrRange},
		{func(s *api.Sensor) { s.Hold = 0 }, api.ErrRange}, {func(s *api.Sensor) { s.Hold = 8 }, api.OK}, {func(s *api.Sensor) { s.Hold = 9 }, api.ErrRange},
	} {
		s := a()
		c.change(&s)
		if e := CheckSensor(s); e != c.e {
			t.Error(i, e, c.e)
		}
		for _, l := range [][]api.Sensor{{s}, {a(), s}, {s, {}}} {
			if e := CheckSensors(l); e != c.e && !(len(l) == 2 && l[1] == (api.Sensor{}) && c.e == api.OK && e == api.ErrKind) {
				t.Error(i, e)
			}
		}
		if c.e == api.OK {
			continue
		}
		n, ok := Late(s, grown())
		l, okSlow := Slow(s, grown())
		x, y, e := False(s, 0)
		if n != 0 || ok || l != nil || okSlow || x != 0 || y != 0 || e != c.e || Value(s, grown(), 3, 0) != 0 || Possible(s, grown(), 0, nil) {
			t.Error(i, "not valid")
		}
	}
	for n, want := range map[int]api.Errno{0: api.ErrShort, 1: api.OK, 4: api.OK, 5: api.ErrFull} {
		l := make([]api.Sensor, n)
		for i := range l {
			l[i] = a()
		}
		_, _, e := Watch(l, make([]api.Sample, 201))
		_, f := Latest(l, kicks(1, 0, 0, 0))
		_, _, g := Caught(l, api.Kick{Rate: -1})
		if CheckSensors(l) != want || want != api.OK && (e != want || f != want || g != want) || want == api.OK && (e != api.ErrFull || f != api.ErrRange || g != api.ErrRange) {
			t.Error(n, e, f, g)
		}
	}
	if e := CheckSensors(make([]api.Sensor, 5)); e != api.ErrFull {
		t.Error(e)
	}
}

func TestP6_1Value(t *testing.T) {
	for i, c := range []struct {
		s          api.Sensor
		n, e, want int64
	}{
		{a(), 3, -2, 1300}, {a(), -1, 1, 1000}, {a(), -1 << 63, -2, -2000}, {a(), 0, 0, 0}, {b(), 0, 0, 1000}, {b(), -1, 0, 0}, {b(), 20, 0, 3000}, {a(), 3, 3, 0}, {a(), 3, -3, 0}, {a(), 20001, 0, 0}, {b(), 20000, 0, 2001000}, {a(), 1<<63 - 1, 0, 0}, {a(), 3, -1 << 63, 0},
	} {
		if v := Value(c.s, grown(), c.n, c.e); v != c.want {
			t.Error(i, v)
		}
	}
	if Value(a(), api.Kick{Rate: -1}, 3, 1) != 0 {
		t.Error("a kick that is not valid")
	}
}

func TestP6_6Identify(t *testing.T) {
	good := api.Shut{Pipe: span(100, 100), Casing: span(400, 400), Gain: span(2000, 2000), Weight: 10, Depth: 1000, Area: 100}
	if x, e := Identify(good); e != api.OK || x != (api.Ingress{Pore: span(10100, 10100), Height: span(20, 20), Weight: span(-5, -5), Kind: api.InfluxGas}) {
		t.Error(x, e)
	}
	for i, c := range []struct {
		change func(x *api.Shut)
		e      api.Errno
	}{
		{func(x *api.Shut) {}, api.OK}, {func(x *api.Shut) { x.Pipe.Lo = 101 }, api.ErrRange}, {func(x *api.Shut) { x.Casing.Lo = 401 }, api.ErrRange}, {func(x *api.Shut) { x.Gain.Lo = 2001 }, api.ErrRange}, {func(x *api.Shut) { x.Pipe.Lo = -1 }, api.ErrRange}, {func(x *api.Shut) { x.Casing.Hi = 1<<36 + 1 }, api.ErrRange}, {func(x *api.Shut) { x.Casing.Hi = 1 << 36 }, api.OK},
		{func(x *api.Shut) { x.Casing.Lo, x.Casing.Hi = -1, 400 }, api.ErrRange}, {func(x *api.Shut) { x.Pipe = span(1<<36+1, 1<<36+1) }, api.ErrRange},
		{func(x *api.Shut) { x.Weight = 0 }, api.ErrRange}, {func(x *api.Shut) { x.Weight, x.Depth = 1, 1 }, api.OK}, {func(x *api.Shut) { x.Weight = 40001 }, api.ErrRange}, {func(x *api.Shut) { x.Depth = 0 }, api.ErrRange}, {func(x *api.Shut) { x.Depth = 1<<20 + 1 }, api.ErrRange}, {func(x *api.Shut) { x.Depth = 1 << 20 }, api.OK}, {func(x *api.Shut) { x.Area = 0 }, api.ErrRange}, {func(x *api.Shut) { x.Area = 5001 }, api.ErrRange},
		{func(x *api.Shut) { x.Gain = span(99, 2000) }, api.ErrRange}, {func(x *api.Shut) { x.Gain = span(100, 1<<30) }, api.OK}, {func(x *api.Shut) { x.Gain = span(100, 1<<30+1) }, api.ErrRange}, {func(x *api.Shut) { x.Area, x.Gain = 5000, span(5000, 5000) }, api.OK},
		{func(x *api.Shut) { x.Casing.Lo = 99 }, api.ErrOrder}, {func(x *api.Shut) { x.Casing.Lo = 100 }, api.OK}, {func(x *api.Shut) { x.Casing.Lo, x.Area = 99, 0 }, api.ErrRange}, {func(x *api.Shut) { x.Pipe.Hi = 401 }, api.ErrOrder},
	} {
		x := good
		c.change(&x)
		if y, e := Identify(x); e != c.e || e != api.OK && y != (api.Ingress{}) {
			t.Error(i, y, e)
		}
	}
	for i, c := range []struct {
		x    api.Shut
		want api.Ingress
	}{
		{api.Shut{Pipe: span(100, 110), Casing: span(400, 425), Gain: span(2050, 2150), Weight: 10, Depth: 1000, Area: 100}, api.Ingress{Pore: span(10100, 10110), Height: span(20, 22), Weight: span(-7, -3), Kind: api.InfluxGas}},
		{api.Shut{Pipe: span(100, 150), Casing: span(400, 425), Gain: span(2050, 2150), Weight: 10, Depth: 1000, Area: 100}, api.Ingress{Pore: span(10100, 10150), Height: span(20, 22), Weight: span(-7, -1), Kind: api.InfluxGas}},
		// One cm of influx, so that the difference is its weight.
		{read(8500, 8500), api.Ingress{Pore: span(12000, 12000), Height: span(1, 1), Weight: span(3500, 3500), Kind: api.InfluxGas}}, {read(8499, 8499), api.Ingress{Pore: span(12000, 12000), Height: span(1, 1), Weight: span(3501, 3501), Kind: api.InfluxOil}},
		{read(3001, 8499), api.Ingress{Pore: span(12000, 12000), Height: span(1, 1), Weight: span(3501, 8999), Kind: api.InfluxOil}}, {read(3000, 8499), api.Ingress{Pore: span(12000, 12000), Height: span(1, 1), Weight: span(3501, 9000), Kind: api.InfluxOpen}}, {read(3001, 8500), api.Ingress{Pore: span(12000, 12000), Height: span(1, 1), Weight: span(3500, 8999), Kind: api.InfluxOpen}},
		{read(0, 3000), api.Ingress{Pore: span(12000, 12000), Height: span(1, 1), Weight: span(9000, 12000), Kind: api.InfluxWater}}, {read(0, 3001), api.Ingress{Pore: span(12000, 12000), Height: span(1, 1), Weight: span(8999, 12000), Kind: api.InfluxOpen}}, {read(8500, 20000), api.Ingress{Pore: span(12000, 12000), Height: span(1, 1), Weight: span(-8000, 3500), Kind: api.InfluxGas}},
	} {
		if x, e := Identify(c.x); e != api.OK || x != c.want {
			t.Error(i, x, e)
		}
	}
}

// read is a well whose casing shows so much more than its pipe.
func read(lo, hi int64) api.Shut {
	return api.Shut{Casing: span(lo, hi), Gain: span(1, 1), Weight: 12000, Depth: 1, Area: 1}
}

func TestP6_11(t *testing.T) {
	roll := dice(611)
	in := func(a, b api.Range) bool { return b.Lo <= a.Lo && a.Hi <= b.Hi }
	for range 300 {
		x := api.Shut{Pipe: span(50, 50+roll(60)), Gain: span(2000, 2000+roll(2000)), Weight: 10000, Depth: 500, Area: 1 + roll(100)}
		x.Casing = span(x.Pipe.Hi+roll(300000), 0)
		x.Casing.Hi = x.Casing.Lo + roll(100000)
		wide, e := Identify(x)
		if e != api.OK {
			t.Fatal(e)
		}
		y := x
		for _, r := range []*api.Range{&y.Pipe, &y.Casing, &y.Gain} {
			r.Lo += roll(r.Hi - r.Lo + 1)
			r.Hi -= roll(r.Hi - r.Lo + 1)
		}
		narrow, e := Identify(y)
		if e != api.OK || !in(narrow.Pore, wide.Pore) || !in(narrow.Height, wide.Height) || !in(narrow.Weight, wide.Weight) || wide.Kind != api.InfluxOpen && narrow.Kind != wide.Kind {
			t.Fatal(narrow, wide, e)
		}
		// One reading within the ranges: the pore pressure, and the exact weight, compared by products.
		pipe, casing, gain := y.Pipe.Lo, y.Casing.Hi, y.Gain.Lo
		lost := (casing - pipe) * x.Area // the weight is 10000 - lost / gain
		if wide.Pore.Lo > pipe+5000000 || wide.Pore.Hi < pipe+5000000 || (10000-wide.Weight.Lo)*gain < lost || (10000-wide.Weight.Hi)*gain > lost {
			t.Fatal(wide, lost, gain)
		}
	}
}
