// Package promise checks the promises that hold for the functions of all layers.
package promise

import (
	"reflect"
	"testing"

	"moonpool/api"
	"moonpool/barrier"
	"moonpool/casing"
	"moonpool/earth"
	"moonpool/fluid"
	"moonpool/house"
	"moonpool/kick"
	"moonpool/kill"
	"moonpool/path"
	"moonpool/pipe"
	"moonpool/rig"
)

// all are the functions that the document lists.
var all = []any{
	path.Root, path.Check, path.Length, path.Joints, path.At, path.Vert, path.Turn, path.Steepest, path.CheckSources, path.Shifts, path.Where, path.Actual, path.Touches, path.Separate, path.Known, path.Gap, path.CheckGoal, path.Plan, path.Sidetrack,
	earth.CheckLine, earth.At, earth.Least, earth.Most, earth.Above, earth.Check, earth.CheckTruth, earth.Depths, earth.Pore, earth.Frac, earth.Window, earth.Fits, earth.Add, earth.Conflicts, earth.Same, earth.Copy,
	fluid.CheckHole, fluid.Volume, fluid.Height, fluid.Where, fluid.CheckColumn, fluid.Plain, fluid.Press, fluid.Pump, fluid.Equivalent, fluid.Flows, fluid.Gradient, fluid.Loss, fluid.Free, fluid.Space, fluid.Bubble, fluid.Load, fluid.Mixed,
	pipe.Check, pipe.Length, pipe.Wet, pipe.Weight, pipe.Joints, pipe.Near, pipe.Fits, pipe.Pieces, pipe.Side, pipe.Bend, pipe.CheckCase, pipe.Loads, pipe.Strong, pipe.Buckles, pipe.CheckTable, pipe.Turn, pipe.Add, pipe.Drop, pipe.Same,
	casing.Check, casing.Inside, casing.Outside, casing.Needed, casing.Pulls, casing.Bears, casing.Cost, casing.Choose, casing.Cement, casing.Proven, casing.Same, casing.Copy,
	kick.Flow, kick.Gain, kick.CheckKick, kick.CheckKicks, kick.CheckSensor, kick.CheckSensors, kick.Value, kick.Watch, kick.Possible, kick.Late, kick.Latest, kick.Caught, kick.Slow, kick.False, kick.Identify,
	kill.Check, kill.CheckProgram, kill.CheckKick, kill.Bottom, kill.At, kill.Last, kill.Run, kill.Ends, kill.Verify, kill.Tolerance, kill.Choose,
	rig.Check, rig.CheckState, rig.Banned, rig.Allowed, rig.Moves, rig.Step, rig.Merge, rig.Follow, rig.CheckGoal, rig.Ticks, rig.Next, rig.Ready, rig.Shear,
	barrier.CheckHouse, barrier.Effective, barrier.Standing, barrier.Proof, barrier.Cuts, barrier.Lapse, barrier.Check, barrier.Do, barrier.Run, barrier.Log, barrier.Read, barrier.Replay, barrier.Same, barrier.Copy,
	house.Check, house.Static, house.Loss, house.Stations, house.Judge, house.Accept, house.Weights, house.CheckBlow, house.Safe, house.Chance, house.Way, house.Wild, house.Same, house.Copy,
}

// maker makes arguments that look random: the same ones each time.
type maker struct {
	seed  uint64
	small int64 // most numbers are from 0 to this
	valid map[reflect.Type]any
}

// copied is a value that shares no memory with v.
func copied(v reflect.Value) reflect.Value {
	c := reflect.New(v.Type()).Elem()
	switch v.Kind() {
	case reflect.Struct:
		for i := range v.NumField() {
			c.Field(i).Set(copied(v.Field(i)))
		}
	case reflect.Slice:
		c.Set(reflect.MakeSlice(v.Type(), v.Len(), v.Len()))
		for i := range v.Len() {
			c.Index(i).Set(copied(v.Index(i)))
		}
	default:
		c.Set(v)
	}
	return c
}

func (m *maker) roll(n int64) int64 {
	m.seed = m.seed*6364136223846793005 + 1442695040888963407
	return int64(m.seed>>33) % n
}

// number is a small one, or one at the border of something.
func (m *maker) number() int64 {
	if m.roll(8) > 0 {
		return m.roll(m.small)
	}
	edges := []int64{-1, 0, 100, 1000, 5000, 40000, 100000, 1 << 17, 1 << 20, 1250000000, 1 << 24, 1 << 34, 1 << 36, 1 << 40, 1 << 41, 1 << 50, 1<<63 - 1, -1 << 63}
	return edges[m.roll(int64(len(edges)))] + m.roll(3) - 1
}

// fill gives a value of any type something: often what is valid, but for a few numbers.
func (m *maker) fill(v reflect.Value) {
	if x, ok := m.valid[v.Type()]; ok && m.roll(8) > 0 {
		v.Set(copied(reflect.ValueOf(x)))
		m.spoil(v)
		return
	}
	switch v.Kind() {
	case reflect.Int, reflect.Int64:
		v.SetInt(m.number())
	case reflect.Bool:
		v.SetBool(m.roll(2) == 0)
	case reflect.String:
		v.SetString("mpl1"[:m.roll(5)] + string(make([]byte, m.roll(300))))
	case reflect.Struct:
		for i := range v.NumField() {
			m.fill(v.Field(i))
		}
	case reflect.Slice:
		n := int(m.roll(5))
		if m.roll(30) == 0 {
			n = int(m.roll(300))
		}
		v.Set(reflect.MakeSlice(v.Type(), n, n))
		for i := range n {
			m.fill(v.Index(i))
		}
	default:
		panic("a type of which no values are made: " + v.Type().String())
	}
}

// spoil changes a number of a value now and then.
func (m *maker) spoil(v reflect.Value) {
	switch v.Kind() {
	case reflect.Int, reflect.Int64:
		if m.roll(60) == 0 {
			v.SetInt(m.number())
		}
	case reflect.Struct:
		for i := range v.NumField() {
			m.spoil(v.Field(i))
		}
	case reflect.Slice:
		if m.roll(60) == 0 {
			v.SetLen(int(m.roll(int64(v.Len() + 1))))
		}
		for i := range v.Len() {
			m.spoil(v.Index(i))
		}
	}
}

// arguments are those of a function.
func (m *maker) arguments(f reflect.Value) []reflect.Value {
	var l []reflect.Value
	for i := range f.Type().NumIn() {
		v := reflect.New(f.Type().In(i)).Elem()
		m.fill(v)
		l = append(l, v)
	}
	return l
}

// line makes a line of pairs of At and V.
func line(n ...int64) api.Line {
	var l api.Line
	for i := 0; i < len(n); i += 2 {
		l.Knots = append(l.Knots, api.Knot{At: n[i], V: n[i+1]})
	}
	return l
}

// valid are valid values of many types.
func valid() map[reflect.Type]any {
	well := api.Path{From: api.Vec{X: 7, Z: 9}, Legs: []api.Vec{{Z: 50000}, {Y: 30000, Z: 40000}}}
	ground := api.Earth{
		Bottom: 100000, PoreLo: line(0, 0, 100000, 900000000), PoreHi: line(0, 0, 100000, 1200000000), FracLo: line(0, 300000000, 100000, 1500000000), FracHi: line(0, 400000000, 100000, 2000000000),
		GHi: 30000, Reports: []api.Report{{Kind: 1, Z: 50000, P: 100000000}, {Kind: 4, Z: 60000, P: 1600000000}},
	}
	hole := api.Hole{Segs: []api.Seg{{Long: 50000, Rise: 40000, Area: 100, Gap: 50}, {Long: 60000, Rise: 60000, Area: 120, Gap: 60}}}
	pipes := api.String{Tubes: []api.Tube{{Count: 10, Len: 1000, Air: 3000000, Steel: 100, Out: 20, Yield: 1 << 40, Twist: 1 << 40}, {Count: 60, Len: 1000, Air: 300000, Steel: 30, Out: 13, Yield: 1 << 40, Twist: 1 << 40, Stiff: 1 << 30}}}
	job := api.Job{Ends: []int64{10000, 20000}, Loads: []api.Stress{{In: line(0, 500000000), Out: line(0, 0, 20000, 1000)}}, Grades: []api.Grade{{Burst: 500000000, Pull: 9000000, Weight: 3, Cost: 1}, {Burst: 500000000, Pull: 9000000, Weight: 2, Cost: 2}}, Factor: 1000, Over: 5}
	sensor := api.Sensor{Channel: 1, Period: 10, Delay: 5, Noise: 2, Step: 1000, Lost: 1, Limit: 20000, Hold: 2}
	kicks := api.Kicks{Rate: api.Range{Lo: 1000, Hi: 1100}, Grow: api.Range{Lo: 100, Hi: 100}}
	killed := api.Well{Hole: hole, Weight: 12000, Points: []api.Knot{{At: 3000000, V: 1200000000}, {At: 9000000, V: 900000000}}, Limit: 500000000, Pipe: 1000000, Step: 1000000}
	program := api.Program{Kind: 1, Weight: 13000, Margin: 10000000, Err: 1000}
	phase := api.Phase{
		Tick: 100, Age: 50, Shoe: 20000, To: 100000, Weight: 12500, Long: 120000, Area: 300, Gap: 50, Mud: api.Mud{Yield: 100, Visc: 10}, Flow: 1, Job: job, Notice: 99,
		Stack: []api.Test{{P: 500000000, Held: true, Tick: 50}}, Cased: []api.Test{{P: 500000000, Held: true, Tick: 100}}, Sensors: []api.Sensor{sensor}, Kicks: kicks,
		Well: killed, Program: program, Volumes: []int64{300000, 400000}, Pores: []int64{1250000000},
	}
	house := api.House{Elements: []api.Element{{State: 2, Bears: 1000, Until: 100}, {State: 2, Bears: 2000, Until: 100}, {State: 2, Bears: 1500, Until: 50}, {State: 1}}, Envelopes: [][]int{{0, 1}, {1, 2}, {2}, {3}}, Need: 2}
	site := api.Site{Tick: 10, Crew: 3, Offer: -1, Press: 1000, House: house, Permits: []api.Permit{{Op: 5, Who: 2, Until: 20, Open: true}}, Broken: -1}
	entry := api.Entry{Tick: 60, Kind: 3, Who: 1, At: 2, To: 1, N: 9}
	log, _ := barrier.Log(site, []api.Entry{entry})
	l := map[reflect.Type]any{}
	for _, x := range []any{
		well, []api.Source{{ID: 1, Per: []api.Vec{{X: 9}, {Y: 5}}}, {ID: 7, Per: []api.Vec{{X: -9}, {Z: 5}}}}, api.Vec{Y: 600, Z: 800},
		api.Goal{Dirs: []api.Vec{{Z: 1000}, {Y: 600, Z: 800}}, Mult: 8, Legs: 3, Turn: api.Part{N: 1, D: 5}, Into: api.Box{Lo: api.Vec{X: -9}, Hi: api.Vec{X: 9, Y: 40000, Z: 99000}}},
		line(0, 5, 1000, 9, 60000, 40), ground, ground.Reports[0], api.Truth{Pore: line(0, 0, 100000, 1000000000), Frac: line(0, 350000000, 100000, 1550000000)},
		hole, []api.Slug{{Weight: 12000, Volume: 5000000}, {Weight: 11000, Volume: 7200000}}, hole.Segs[0], phase.Mud, api.Gas{K: 5000000, Power: 1000},
		pipes, pipes.Tubes[0], api.Case{Mode: 1, Mud: 5000, Mu: api.Range{Lo: 100, Hi: 200}, Bit: 9}, []api.Row{{Turn: api.Part{N: 1, D: 9}, Turns: 9000}, {Turn: api.Part{N: 1, D: 2}, Turns: 8000}},
		job, job.Loads[0], phase.Stack, api.Kick{Rate: 1000, Grow: 100}, kicks, sensor, phase.Sensors, []api.Sample{{Tick: 3, Value: 1300}, {Tick: 13, Value: 18800}},
		api.Shut{Pipe: api.Range{Lo: 100, Hi: 110}, Casing: api.Range{Lo: 400, Hi: 410}, Gain: api.Range{Lo: 2000, Hi: 2100}, Weight: 10, Depth: 1000, Area: 100},
		killed, program, api.Bubble{Volume: 300000, Pore: 1250000000}, []api.Program{program, program},
		api.Rig{Places: []int{3, 3}, Bans: []api.Ban{{A: 0, ALo: 1, AHi: 1, B: 1, BLo: 1, BHi: 2}}}, []int{0, 1}, [][]int{{0, -1}, {1, 0}}, []api.Request{{Machine: 1, Move: 1, Rank: 5}, {Move: 1, Rank: 3}}, []api.Span{{Hi: 1}, {Lo: 0, Hi: 2}}, api.Ram{Faces: 2000, Step: 100, Near: 20},
		house, site, entry, log,
		phase, api.Plan{Earth: ground, Grid: 1000, Phases: []api.Phase{phase}}, api.Blow{Lost: []bool{false, false, true}, Moves: [][]int{{1, 2}, {0}, {2}}},
	} {
		l[reflect.TypeOf(x)] = x
	}
	return l
}

// scramble changes all memory that a value refers to.
func scramble(v reflect.Value) {
	switch v.Kind() {
	case reflect.Int, reflect.Int64:
		v.SetInt(v.Int() ^ 1)
	case reflect.Struct:
		for i := range v.NumField() {
			scramble(v.Field(i))
		}
	case reflect.Slice:
		for i := range v.Len() {
			scramble(v.Index(i))
		}
	}
}

// same reports whether two lists of values are equal in everything.
func same(a, b []reflect.Value) bool {
	for i := range a {
		if !reflect.DeepEqual(a[i].Interface(), b[i].Interface()) {
			return false
		}
	}
	return true
}

// call calls a function twice, with equal arguments, and compares the results, and the arguments with what they were. It reports whether the function returned something, and no error.
func call(t *testing.T, n int, f reflect.Value, a, b []reflect.Value) bool {
	defer func() {
		if x := recover(); x != nil {
			t.Fatal("a function panics:", n, f.Type(), x, a)
		}
	}()
	first := f.Call(a)
	if !same(a, b) {
		t.Fatal("arguments are changed:", n, f.Type())
	}
	second := f.Call(b)
	if !same(first, second) {
		t.Fatal("results differ:", n, f.Type())
	}
	for _, v := range a {
		scramble(v)
	}
	if !same(first, second) {
		t.Fatal("a result shares memory with an argument:", n, f.Type())
	}
	failed, something := false, false
	for _, r := range first {
		if e, ok := r.Interface().(api.Errno); ok {
			failed, something = e != api.OK, true
		}
		something = something || !r.IsZero() || r.Kind() == reflect.Bool
	}
	keeps := f.Pointer() == reflect.ValueOf(barrier.Run).Pointer() || f.Pointer() == reflect.ValueOf(barrier.Replay).Pointer()
	for _, r := range first {
		if _, ok := r.Interface().(api.Errno); !ok && failed && !keeps && !r.IsZero() {
			t.Fatal("a result beside an error:", n, f.Type(), r)
		}
	}
	return something && !failed
}

// TestP1 calls every function with arguments of all kinds. It also checks the rules R3, R4 and R6.
func TestP1(t *testing.T) {
	samples := valid()
	for n, x := range all {
		f := reflect.ValueOf(x)
		good := 0
		for round := range int64(600) {
			small := []int64{4, 12, 300, 60000}[round%4]
			seed := uint64(n)<<32 + uint64(round)
			a, b := maker{seed, small, samples}, maker{seed, small, samples}
			if call(t, n, f, a.arguments(f), b.arguments(f)) {
				good++
			}
		}
		if good == 0 {
			t.Error("no call returned anything:", n, f.Type())
		}
	}
}
