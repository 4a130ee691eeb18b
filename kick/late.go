package kick

import (
	"moonpool/api"
	"moonpool/whole"
)

// latest is the latest alarm of a sensor: the ticks until it comes, the first phase for which it comes then, and the number of the first sample there that is high whatever its error.
type latest struct {
	ticks, phase, first int64
}

// find finds the latest alarm of a valid sensor for a valid kick, if there is one.
func find(s api.Sensor, k api.Kick) (latest, bool) {
	value := says(s, k)
	worst := latest{ticks: -1}
phases:
	for phase := range s.Period {
		for a := int64(0); phase+a*s.Period <= api.MaxWait; a++ {
			if value(phase+a*s.Period)-s.Noise*s.Step < s.Limit {
				continue
			}
			if ticks := phase + (a+s.Hold*(s.Lost+1)-1)*s.Period + s.Delay; ticks > worst.ticks {
				worst = latest{ticks, phase, a}
			}
			continue phases
		}
		return latest{}, false
	}
	return worst, worst.ticks <= api.MaxWait
}

// Late returns the latest alarm of a sensor for a kick.
func Late(s api.Sensor, k api.Kick) (int64, bool) {
	if !valid(s, k) {
		return 0, false
	}
	x, ok := find(s, k)
	if !ok {
		return 0, false
	}
	return x.ticks, true
}

// earliest is the least latest alarm of sensors.
func earliest(l []api.Sensor, k api.Kick) (int64, api.Errno) {
	ticks, found := int64(0), false
	for _, s := range l {
		if n, ok := Late(s, k); ok && (!found || n < ticks) {
			ticks, found = n, true
		}
	}
	if !found {
		return 0, api.ErrLate
	}
	return ticks, api.OK
}

// Latest returns the latest alarm of sensors for all kicks of a set.
func Latest(l []api.Sensor, x api.Kicks) (int64, api.Errno) {
	if e := CheckSensors(l); e != api.OK {
		return 0, e
	}
	if e := CheckKicks(x); e != api.OK {
		return 0, e
	}
	return earliest(l, least(x))
}

// Caught returns the latest alarm of sensors for a kick, and its gain then.
func Caught(l []api.Sensor, k api.Kick) (ticks, gain int64, e api.Errno) {
	if e := CheckSensors(l); e != api.OK {
		return 0, 0, e
	}
	if e := CheckKick(k); e != api.OK {
		return 0, 0, e
	}
	ticks, e = earliest(l, k)
	if e != api.OK {
		return 0, 0, e
	}
	return ticks, Gain(k, ticks), api.OK
}

// Slow returns samples with which a sensor alarms as late as it can.
func Slow(s api.Sensor, k api.Kick) ([]api.Sample, bool) {
	if !valid(s, k) {
		return nil, false
	}
	x, ok := find(s, k)
	if !ok || !whole.Within(x.first+s.Hold, 0, api.MaxSamples) {
		return nil, false
	}
	var l []api.Sample
	add := func(number int64) {
		tick := x.phase + number*s.Period
		l = append(l, api.Sample{Tick: tick, Value: Value(s, k, tick, -s.Noise)})
	}
	for i := range x.first {
		add(i)
	}
	for j := range s.Hold {
		add(x.first + (j+1)*(s.Lost+1) - 1)
	}
	return l, true
}
