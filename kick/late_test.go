package kick

import (
	"slices"
	"testing"

	"moonpool/api"
)

func TestP6_3Late(t *testing.T) {
	dull := b()
	dull.Limit = 1001
	for i, c := range []struct {
		s    api.Sensor
		k    api.Kick
		want int64
		ok   bool
	}{
		{b(), grown(), 20, true}, {a(), grown(), 58, true}, {b(), api.Kick{Rate: 3000}, 0, true}, {b(), api.Kick{Rate: 2999}, 0, false}, {b(), api.Kick{Rate: 2999, Grow: 1}, 1, true}, {b(), api.Kick{}, 0, false}, {b(), api.Kick{Rate: -1}, 0, false},
		{dull, api.Kick{Grow: 1}, 1001, true},
		{api.Sensor{Channel: 2, Period: 1, Step: 1, Limit: 10000, Hold: 1}, api.Kick{Grow: 1}, 10000, true}, {api.Sensor{Channel: 2, Period: 1, Step: 1, Limit: 10001, Hold: 1}, api.Kick{Grow: 1}, 0, false},
		{api.Sensor{Channel: 2, Period: 1, Step: 1, Limit: 9999, Hold: 2}, api.Kick{Grow: 1}, 10000, true}, {api.Sensor{Channel: 2, Period: 1, Step: 1, Limit: 10000, Hold: 2}, api.Kick{Grow: 1}, 0, false}, {api.Sensor{Channel: 2, Period: 1, Delay: 1, Step: 1, Limit: 10000, Hold: 1}, api.Kick{Grow: 1}, 0, false},
		{api.Sensor{Channel: 2, Period: 7, Step: 1, Limit: 100, Hold: 1}, api.Kick{Grow: 1}, 106, true}, {api.Sensor{Channel: 2, Period: 7, Noise: 2, Step: 3, Limit: 100, Hold: 1, Lost: 5, Delay: 600}, api.Kick{Grow: 1}, 106 + 6 + 35 + 600, true},
		{api.Sensor{Channel: 1, Period: 60, Step: 1, Limit: 1 << 40, Hold: 8}, api.Kick{Rate: 1 << 24, Grow: 4096}, 0, false}, // a kick of 1 << 40 comes after 19,400 ticks or so
		{api.Sensor{Channel: 1, Period: 60, Step: 1, Limit: 1, Hold: 1}, api.Kick{Rate: 1}, 60, true},
	} {
		if n, ok := Late(c.s, c.k); n != c.want || ok != c.ok {
			t.Error(i, n, ok)
		}
	}
}

func TestP6_3Latest(t *testing.T) {
	both := []api.Sensor{a(), b()}
	for i, c := range []struct {
		l    []api.Sensor
		x    api.Kicks
		want int64
		e    api.Errno
	}{
		{both, kicks(1000, 1000, 100, 100), 20, api.OK}, {both[:1], kicks(1000, 1000, 100, 100), 58, api.OK}, {both, kicks(1000, 9000, 100, 4000), 20, api.OK}, {both[1:], kicks(0, 1000, 0, 100), 0, api.ErrLate}, {both, kicks(1, 1000, 0, 100), 0, api.ErrLate}, {both, kicks(1000, 999, 0, 100), 0, api.ErrRange},
		{[]api.Sensor{b(), a()}, kicks(2000, 2999, 0, 100), 55, api.OK}, // the flow is never noticed, the gain is
	} {
		if n, e := Latest(c.l, c.x); n != c.want || e != c.e {
			t.Error(i, n, e)
		}
	}
	if n, gain, e := Caught(both, grown()); n != 20 || gain != 39000 || e != api.OK {
		t.Error(n, gain, e)
	}
	if n, gain, e := Caught(both[1:], api.Kick{Rate: 1}); n != 0 || gain != 0 || e != api.ErrLate {
		t.Error(n, gain, e)
	}
	if n, gain, e := Caught(both, api.Kick{Grow: -1}); n != 0 || gain != 0 || e != api.ErrRange {
		t.Error(n, gain, e)
	}
}

func TestP6_4Slow(t *testing.T) {
	l, ok := Slow(a(), grown())
	want := []api.Sample{{Tick: 3, Value: 1300}, {Tick: 13, Value: 18800}, {Tick: 33, Value: 83800}, {Tick: 53, Value: 188800}}
	if !ok || !slices.Equal(l, want) {
		t.Error(l, ok)
	}
	if l, ok := Slow(b(), api.Kick{}); l != nil || ok {
		t.Error(l, ok)
	}
	if l, ok := Slow(a(), api.Kick{Rate: -1}); l != nil || ok {
		t.Error(l, ok)
	}
	s := api.Sensor{Channel: 2, Period: 1, Step: 1, Limit: 199, Hold: 1}
	if l, ok := Slow(s, api.Kick{Grow: 1}); !ok || len(l) != 200 {
		t.Error(len(l), ok)
	}
	s.Limit = 200
	if l, ok := Slow(s, api.Kick{Grow: 1}); ok || l != nil {
		t.Error(len(l), ok)
	}
}

// randomSensor is one that notices small kicks.
func randomSensor(roll func(int64) int64) api.Sensor {
	return api.Sensor{Channel: int(1 + roll(2)), Period: 1 + roll(8), Delay: roll(20), Noise: roll(4), Step: 1 + roll(9), Lost: roll(3), Limit: 1 + roll(300), Hold: 1 + roll(4)}
}

// randomSamples are possible for a kick that began at begin, and go on until after the tick end.
func randomSamples(roll func(int64) int64, s api.Sensor, k api.Kick, begin, end int64) []api.Sample {
	var l []api.Sample
	lost := int64(0)
	for tick := roll(s.Period); tick <= end && len(l) < api.MaxSamples; tick += s.Period {
		if lost < s.Lost && roll(3) > 0 {
			lost++
			continue
		}
		lost = 0
		noise := roll(2*s.Noise+1) - s.Noise
		if roll(3) > 0 {
			noise = -s.Noise
		}
		l = append(l, api.Sample{Tick: tick, Value: Value(s, k, tick-begin, noise)})
	}
	return l
}

// TestP6_7 checks that possible samples make a sensor alarm until the latest alarm, and those of Slow just then: P6.7 and P6.8.
func TestP6_7(t *testing.T) {
	roll := dice(67)
	just, found := 0, 0
	for range 400 {
		s := randomSensor(roll)
		k := api.Kick{Rate: roll(40), Grow: roll(5)}
		late, ok := Late(s, k)
		if !ok || late > 300 {
			continue
		}
		found++
		sensors := []api.Sensor{s}
		for range 30 {
			begin := roll(40)
			l := randomSamples(roll, s, k, begin, begin+late)
			if !Possible(s, k, begin, l) {
				t.Fatal("not possible", s, k, begin, l)
			}
			alarm, ok, e := Watch(sensors, l)
			if e != api.OK || len(l) < api.MaxSamples && (!ok || alarm.Tick > begin+late) {
				t.Fatal(s, k, begin, l, alarm, ok, late)
			}
			if alarm.Tick == begin+late {
				just++
			}
		}
		slow, ok := Slow(s, k)
		if !ok {
			continue
		}
		alarm, ok, e := Watch(sensors, slow)
		if !ok || e != api.OK || alarm.Tick != late || !Possible(s, k, 0, slow) {
			t.Fatal(s, k, slow, alarm, late)
		}
		more := k
		more.Rate, more.Grow = k.Rate+roll(9), k.Grow+roll(9)
		if n, ok := Late(s, more); !ok || n > late {
			t.Fatal("P6.8, a greater kick")
		}
		for _, x := range []api.Sensor{
			{Channel: s.Channel, Period: s.Period, Delay: max(0, s.Delay-3), Noise: max(0, s.Noise-1), Step: s.Step, Lost: s.Lost, Limit: s.Limit, Hold: s.Hold},
			{Channel: s.Channel, Period: s.Period, Delay: s.Delay, Noise: s.Noise, Step: s.Step, Lost: max(0, s.Lost-1), Limit: s.Limit, Hold: s.Hold},
			{Channel: s.Channel, Period: s.Period, Delay: s.Delay, Noise: s.Noise, Step: s.Step, Lost: s.Lost, Limit: max(1, s.Limit-9), Hold: max(1, s.Hold-1)},
		} {
			if n, ok := Late(x, k); !ok || n > late {
				t.Fatal("P6.8, a better sensor", x, s)
			}
		}
	}
	if found < 100 || just < 10 {
		t.Error("too few alarms", found, just)
	}
}

func TestP6_2Possible(t *testing.T) {
	s := api.Sensor{Channel: api.ChannelPit, Period: 10, Noise: 1, Step: 7, Lost: 1, Limit: 5, Hold: 1}
	k := api.Kick{Rate: 100}
	// sample is one at a tick, for a beginning at 20, with an error.
	sample := func(tick, e int64) api.Sample {
		return api.Sample{Tick: tick, Value: Value(s, k, tick-20, e), Sensor: 3}
	}
	for i, c := range []struct {
		begin int64
		l     []api.Sample
		ok    bool
	}{
		{20, nil, true}, {20, []api.Sample{sample(3, 0), sample(13, 1), sample(33, -1), sample(43, 0)}, true}, {20, []api.Sample{sample(19, 0)}, true}, {20, []api.Sample{sample(20, 0)}, false}, {20, []api.Sample{sample(0, 1)}, true},
		{20, []api.Sample{sample(3, 0), sample(13, 0), sample(43, 0)}, false}, {20, []api.Sample{sample(3, 0), sample(14, 0)}, false}, {20, []api.Sample{sample(13, 0), sample(13, 0)}, false}, {20, []api.Sample{sample(13, 0), sample(3, 0)}, false}, {20, []api.Sample{sample(13, 0), sample(33, 0)}, true},
		{20, []api.Sample{{Tick: 3, Value: 14, Sensor: 3}}, false}, {20, []api.Sample{{Tick: 3, Value: -14, Sensor: 3}}, false}, {20, []api.Sample{{Tick: 3, Value: 6, Sensor: 3}}, false}, {20, []api.Sample{{Tick: 3, Value: -7, Sensor: 3}}, true}, {20, []api.Sample{{Tick: 3, Value: -1 << 63, Sensor: 3}}, false}, {20, []api.Sample{{Tick: 3, Value: 1<<63 - 1, Sensor: 3}}, false},
		{20, []api.Sample{sample(3, 0), {Tick: 13}}, false}, {20, []api.Sample{{Tick: 3, Sensor: -4}, {Tick: 13, Sensor: -4}}, true}, {20, []api.Sample{{Tick: -7, Sensor: 3}}, false}, {20, []api.Sample{{Tick: -1 << 63}}, false}, {20, []api.Sample{{Tick: 1<<63 - 1}}, false},
		{-1, nil, false}, {20001, nil, false}, {20000, nil, true}, {19, []api.Sample{sample(3, 0), sample(13, 0), sample(33, 0)}, false},
	} {
		if ok := Possible(s, k, c.begin, c.l); ok != c.ok {
			t.Error(i, ok)
		}
	}
	if Possible(s, api.Kick{Rate: -1}, 0, nil) {
		t.Error("a kick that is not valid")
	}
	// Far from the beginning: 200 samples at most, up to 20,000 ticks after it.
	far := api.Sensor{Channel: api.ChannelFlow, Period: 60, Step: 1, Lost: 5, Limit: 5, Hold: 1}
	var l []api.Sample
	for i := range int64(112) {
		l = append(l, api.Sample{Tick: 300 + 360*i, Value: 100})
	}
	for i := range l {
		if l[i].Tick < 20000 {
			l[i].Value = 0
		}
	}
	last := len(l) - 1 // at 40,260
	if Possible(far, k, 20000, l) || !Possible(far, k, 20000, l[:last]) {
		t.Error(l[last])
	}
	short := api.Sensor{Channel: api.ChannelFlow, Period: 1, Step: 1, Limit: 5, Hold: 1}
	l = nil
	for i := range int64(201) {
		l = append(l, api.Sample{Tick: i, Value: 100})
	}
	if Possible(short, k, 0, l) || !Possible(short, k, 0, l[:200]) {
		t.Error("200 samples")
	}
	early := api.Sensor{Channel: api.ChannelFlow, Period: 60, Step: 1, Lost: 5, Limit: 5, Hold: 1}
	for i := range l {
		l[i].Tick = int64(i) * 180
	}
	if Possible(early, k, 0, l[:113]) || !Possible(early, k, 0, l[:112]) { // at 20,160 and 19,980
		t.Error("20,000 ticks after the beginning")
	}
}

func TestP6_2Watch(t *testing.T) {
	both := []api.Sensor{a(), b()}
	at := func(sensor int, tick, value int64) api.Sample {
		return api.Sample{Sensor: sensor, Tick: tick, Value: value}
	}
	for i, c := range []struct {
		l    []api.Sample
		want api.Alarm
		ok   bool
		e    api.Errno
	}{
		{[]api.Sample{at(1, 7, 2999), at(1, 8, 3000), at(1, 9, 5000)}, api.Alarm{Sensor: 1, Tick: 8}, true, api.OK}, {nil, api.Alarm{}, false, api.OK}, {[]api.Sample{at(1, 7, 2999)}, api.Alarm{}, false, api.OK},
		{[]api.Sample{at(0, 7, 20000), at(0, 9, 20000)}, api.Alarm{Tick: 14}, true, api.OK}, {[]api.Sample{at(0, 7, 20000), at(0, 9, 19999), at(0, 11, 20000)}, api.Alarm{}, false, api.OK}, {[]api.Sample{at(0, 7, 20000), at(0, 9, 19999), at(0, 11, 20000), at(0, 13, 20000), at(0, 15, 20000)}, api.Alarm{Tick: 18}, true, api.OK},
		{[]api.Sample{at(0, 7, 20000), at(1, 15, 3000), at(0, 9, 20000)}, api.Alarm{Tick: 14}, true, api.OK}, {[]api.Sample{at(1, 14, 3000), at(0, 7, 20000), at(0, 9, 20000)}, api.Alarm{Tick: 14}, true, api.OK}, {[]api.Sample{at(1, 13, 3000), at(0, 7, 20000), at(0, 9, 20000)}, api.Alarm{Sensor: 1, Tick: 13}, true, api.OK},
		{make([]api.Sample, 201), api.Alarm{}, false, api.ErrFull}, {slices.Repeat([]api.Sample{at(2, -1, 0)}, 201), api.Alarm{}, false, api.ErrFull}, {[]api.Sample{at(0, -1, 0), at(2, 1, 0)}, api.Alarm{}, false, api.ErrMissing}, {[]api.Sample{at(-1, 1, 0)}, api.Alarm{}, false, api.ErrMissing},
		{[]api.Sample{at(0, 5, 0), at(0, 5, 0), at(0, -1, 0)}, api.Alarm{}, false, api.ErrRange}, {[]api.Sample{at(0, 1<<40-600, 0)}, api.Alarm{}, false, api.OK}, {[]api.Sample{at(0, 1<<40-599, 0)}, api.Alarm{}, false, api.ErrRange}, {[]api.Sample{at(0, 1, 1<<50)}, api.Alarm{}, false, api.OK}, {[]api.Sample{at(0, 1, 1<<50+1)}, api.Alarm{}, false, api.ErrRange}, {[]api.Sample{at(0, 1, -1<<50)}, api.Alarm{}, false, api.OK}, {[]api.Sample{at(0, 1, -1<<50-1)}, api.Alarm{}, false, api.ErrRange},
		{[]api.Sample{at(0, 5, 0), at(1, 5, 0), at(1, 5, 0)}, api.Alarm{}, false, api.ErrOrder}, {[]api.Sample{at(0, 5, 0), at(1, 3, 0), at(0, 4, 0)}, api.Alarm{}, false, api.ErrOrder}, {[]api.Sample{at(0, 5, 0), at(1, 3, 0), at(0, 6, 0)}, api.Alarm{}, false, api.OK},
	} {
		if x, ok, e := Watch(both, c.l); x != c.want || ok != c.ok || e != c.e {
			t.Error(i, x, ok, e)
		}
	}
	// 200 samples of both sensors in turn.
	var l []api.Sample
	for i := range int64(200) {
		l = append(l, at(int(i%2), i, 0))
	}
	l[199].Value = 3000
	if x, ok, e := Watch(both, l); !ok || e != api.OK || x != (api.Alarm{Sensor: 1, Tick: 199}) {
		t.Error(x, ok, e)
	}
}

func TestP6_12(t *testing.T) {
	roll := dice(612)
	for range 300 {
		sensors := []api.Sensor{randomSensor(roll), randomSensor(roll)}
		var l, mixed []api.Sample
		for n := range 2 {
			for i := range 10 + roll(10) {
				l = append(l, api.Sample{Sensor: n, Tick: 2*i + roll(2), Value: roll(600)})
			}
		}
		slices.SortStableFunc(l, func(a, b api.Sample) int { return int(a.Tick - b.Tick) })
		x, ok, _ := Watch(sensors, l)
		for n := range 2 {
			for _, s := range l {
				if s.Sensor == 1-n {
					mixed = append(mixed, s)
				}
			}
		}
		if y, yes, _ := Watch(sensors, mixed); x != y || ok != yes {
			t.Fatal("the order of different sensors matters", x, y)
		}
		if !ok {
			continue
		}
		var early []api.Sample
		for _, s := range l {
			if s.Tick+sensors[s.Sensor].Delay <= x.Tick {
				early = append(early, s)
			}
		}
		if y, yes, _ := Watch(sensors, early); x != y || !yes {
			t.Fatal("later samples matter", x, y)
		}
	}
}

func TestP6_5False(t *testing.T) {
	s := api.Sensor{Channel: 1, Period: 1, Noise: 2, Step: 1000, Limit: 1000, Hold: 2}
	for i, c := range []struct {
		limit       int64
		draws       int
		alarms, all int64
		e           api.Errno
	}{
		{1000, 2, 4, 25, api.OK}, {1000, 3, 32, 125, api.OK}, {2001, 3, 0, 125, api.OK}, {2000, 2, 1, 25, api.OK}, {1000, 1, 0, 5, api.OK}, {1, 2, 4, 25, api.OK}, {1000, 0, 0, 0, api.ErrRange}, {1000, 13, 0, 0, api.ErrRange}, {1000, -1 << 63, 0, 0, api.ErrRange},
	} {
		s.Limit = c.limit
		if n, all, e := False(s, c.draws); n != c.alarms || all != c.all || e != c.e {
			t.Error(i, n, all, e)
		}
	}
	most := api.Sensor{Channel: 1, Period: 1, Noise: 15, Step: 1, Limit: 1, Hold: 1}
	n, all, e := False(most, 12)
	if none := int64(1 << 48); e != api.OK || all != 787662783788549761 || n != all-none { // 31^12, less 16^12
		t.Error(n, all, e)
	}
}

// TestP6_9 counts the alarms of Watch over all sequences of errors.
func TestP6_9(t *testing.T) {
	roll := dice(69)
	for range 60 {
		s := randomSensor(roll)
		s.Noise = min(s.Noise, 2)
		s.Limit = 1 + roll(s.Noise*s.Step+2)
		draws := 1 + int(roll(5))
		alarms, all, e := False(s, draws)
		count, sequences := int64(0), int64(0)
		errors := make([]int64, draws)
		for {
			var l []api.Sample
			for i, x := range errors {
				l = append(l, api.Sample{Tick: int64(i) * s.Period, Value: (x - s.Noise) * s.Step})
			}
			if _, ok, _ := Watch([]api.Sensor{s}, l); ok {
				count++
			}
			sequences++
			i := draws - 1
			for ; i >= 0 && errors[i] == 2*s.Noise; i-- {
				errors[i] = 0
			}
			if i < 0 {
				break
			}
			errors[i]++
		}
		if e != api.OK || alarms != count || all != sequences {
			t.Fatal(s, draws, alarms, count, all, sequences)
		}
		if more, of, _ := False(s, draws+1); more*all < alarms*of || s.Limit > s.Noise*s.Step && more != 0 {
			t.Fatal("fewer alarms for more draws")
		}
	}
}
