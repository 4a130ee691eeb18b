package kick

import (
	"maps"
	"slices"

	"moonpool/api"
	"moonpool/whole"
)

// bySensor are the samples of each sensor, in the order given.
func bySensor(samples []api.Sample) map[int][]api.Sample {
	m := map[int][]api.Sample{}
	for _, x := range samples {
		m[x.Sensor] = append(m[x.Sensor], x)
	}
	return m
}

// ascend reports whether the ticks of samples are strictly ascending.
func ascend(samples []api.Sample) bool {
	for i := 1; i < len(samples); i++ {
		if samples[i].Tick <= samples[i-1].Tick {
			return false
		}
	}
	return true
}

// checkSamples returns the first error of samples of so many sensors.
func checkSamples(sensors int, samples []api.Sample) api.Errno {
	if len(samples) > api.MaxSamples {
		return api.ErrFull
	}
	for _, x := range samples {
		if x.Sensor < 0 || x.Sensor >= sensors {
			return api.ErrMissing
		}
	}
	for _, x := range samples {
		if !whole.Within(x.Tick, 0, api.MaxTick-api.MaxDelay) || !whole.Within(x.Value, -1<<50, 1<<50) {
			return api.ErrRange
		}
	}
	for _, own := range bySensor(samples) {
		if !ascend(own) {
			return api.ErrOrder
		}
	}
	return api.OK
}

// alarm is the tick at which the first alarm of a sensor comes, if there is one.
func alarm(s api.Sensor, samples []api.Sample) (int64, bool) {
	row := int64(0)
	for _, x := range samples {
		row++
		if x.Value < s.Limit {
			row = 0
		}
		if row == s.Hold {
			return x.Tick + s.Delay, true
		}
	}
	return 0, false
}

// Watch returns the first alarm of sensors.
func Watch(l []api.Sensor, samples []api.Sample) (api.Alarm, bool, api.Errno) {
	if e := CheckSensors(l); e != api.OK {
		return api.Alarm{}, false, e
	}
	if e := checkSamples(len(l), samples); e != api.OK {
		return api.Alarm{}, false, e
	}
	all := bySensor(samples)
	var first api.Alarm
	found := false
	for _, n := range slices.Sorted(maps.Keys(all)) {
		if tick, ok := alarm(l[n], all[n]); ok && (!found || tick < first.Tick) {
			first, found = api.Alarm{Sensor: n, Tick: tick}, true
		}
	}
	return first, found, api.OK
}

// Possible reports whether samples are possible for a sensor, and a kick that began at a tick.
func Possible(s api.Sensor, k api.Kick, begin int64, samples []api.Sample) bool {
	if !valid(s, k) || !whole.Within(begin, 0, maxAge) || len(samples) > api.MaxSamples || !ascend(samples) {
		return false
	}
	value := says(s, k)
	next := int64(0) // the first tick at which a sample might come, but for the phase
	for i, x := range samples {
		if !whole.Within(x.Tick, 0, begin+maxAge) || x.Sensor != samples[0].Sensor {
			return false
		}
		if i > 0 && (x.Tick-samples[0].Tick)%s.Period != 0 || x.Tick >= next+(s.Lost+1)*s.Period {
			return false
		}
		right, noise := value(x.Tick-begin), s.Noise*s.Step
		if !whole.Within(x.Value, right-noise, right+noise) || (x.Value-right)%s.Step != 0 {
			return false
		}
		next = x.Tick + s.Period
	}
	return true
}

// False returns how many sequences of errors make a sensor alarm without a kick, and how many there are.
func False(s api.Sensor, draws int) (alarms, all int64, e api.Errno) {
	if e := CheckSensor(s); e != api.OK {
		return 0, 0, e
	}
	if draws < 1 || draws > api.MaxDraws {
		return 0, 0, api.ErrRange
	}
	high := int64(0)
	for x := -s.Noise; x <= s.Noise; x++ {
		if x*s.Step >= s.Limit {
			high++
		}
	}
	each := 2*s.Noise + 1
	all = 1
	// How many sequences end with so many high samples in a row, and at Hold: how many made the sensor alarm.
	rows := [api.MaxHold + 1]int64{1}
	for range draws {
		before := rows
		rows = [api.MaxHold + 1]int64{}
		for n := range s.Hold {
			rows[0] += (each - high) * before[n]
			rows[n+1] += high * before[n]
		}
		rows[s.Hold] += each * before[s.Hold]
		all *= each
	}
	return rows[s.Hold], all, api.OK
}
