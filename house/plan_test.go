package house

import (
	"slices"
	"testing"

	"moonpool/api"
	"moonpool/earth"
	"moonpool/kick"
	"moonpool/kill"
)

// line makes a line of pairs of At and V.
func line(n ...int64) api.Line {
	var l api.Line
	for i := 0; i < len(n); i += 2 {
		l.Knots = append(l.Knots, api.Knot{At: n[i], V: n[i+1]})
	}
	return l
}

// dice returns numbers that look random: the same ones each time.
func dice(seed uint64) func(n int64) int64 {
	return func(n int64) int64 {
		seed = seed*6364136223846793005 + 1442695040888963407
		return int64(seed>>33) % n
	}
}

// example is a plan with the phase of the document's examples.
func example() api.Plan {
	return api.Plan{
		Earth: api.Earth{
			Bottom: 100000,
			PoreLo: line(0, 0, 100000, 900000000), PoreHi: line(0, 0, 100000, 1200000000),
			FracLo: line(0, 300000000, 100000, 1500000000), FracHi: line(0, 400000000, 100000, 2000000000),
			GLo: 0, GHi: 30000,
		},
		Grid:   1000,
		Phases: []api.Phase{lower()},
	}
}

// lower is that phase, from 20,000 to 100,000.
func lower() api.Phase {
	return api.Phase{
		Tick: 100, Age: 50, Shoe: 20000, To: 100000, Weight: 12500, Long: 120000, Area: 300, Gap: 50, Mud: api.Mud{Yield: 100, Visc: 10}, Flow: 1,
		Job: api.Job{
			Ends: []int64{20000}, Loads: []api.Stress{{In: line(0, 500000000), Out: line(0, 0)}},
			Grades: []api.Grade{{Burst: 500000000, Pull: 1, Cost: 1}}, Factor: 1000,
		},
		Stack: []api.Test{{P: 500000000, Held: true, Tick: 50}}, Cased: []api.Test{{P: 500000000, Held: true, Tick: 100}},
		Sensors: []api.Sensor{{Channel: api.ChannelPit, Period: 10, Delay: 5, Noise: 2, Step: 1000, Lost: 1, Limit: 20000, Hold: 2}},
		Kicks:   api.Kicks{Rate: api.Range{Lo: 1000, Hi: 1000}, Grow: api.Range{Lo: 100, Hi: 100}}, Notice: 58,
		Well: api.Well{
			Hole: api.Hole{Segs: []api.Seg{{Long: 100000, Rise: 100000, Area: 100, Gap: 50}}}, Weight: 12000,
			Points: []api.Knot{{At: 8000000, V: 540000000}}, Limit: 500000000, Pipe: 1000000, Step: 1000000,
		},
		Program: api.Program{Kind: api.KillDriller, Weight: 13000, Margin: 10000000},
		Volumes: []int64{300000}, Pores: []int64{1250000000},
	}
}

// two is a plan with another phase before that, from the surface to 20,000.
func two() api.Plan {
	p := example()
	x := lower()
	x.Tick, x.Shoe, x.To, x.Weight, x.Long = 60, 0, 20000, 14000, 20000
	x.Job = api.Job{}
	x.Cased[0].Tick = 60
	x.Well.Hole = api.Hole{Segs: []api.Seg{{Long: 20000, Rise: 20000, Area: 100, Gap: 50}}}
	x.Well.Points, x.Well.Limit, x.Pores = nil, 300000000, []int64{250000000}
	p.Phases = []api.Phase{x, lower()}
	return p
}

// six are six phases.
func six() []api.Phase {
	var l []api.Phase
	for i := range int64(6) {
		x := lower()
		x.Job, x.To, x.Shoe = api.Job{}, 95000+i, 20000
		l = append(l, x)
	}
	return l
}

func TestP10_1Check(t *testing.T) {
	type change = func(p *api.Plan, x *api.Phase)
	tests := make([]api.Test, 25)
	for i, c := range []struct {
		change change
		e      api.Errno
	}{
		{func(p *api.Plan, x *api.Phase) {}, api.OK}, {func(p *api.Plan, x *api.Phase) { p.Earth.PoreLo, p.Grid = line(), 0 }, api.ErrShort}, {func(p *api.Plan, x *api.Phase) { p.Earth.PoreHi = line(0, 0) }, api.ErrClash}, {func(p *api.Plan, x *api.Phase) { p.Grid, p.Phases = 9, nil }, api.ErrRange}, {func(p *api.Plan, x *api.Phase) { p.Grid = 1<<20 + 1 }, api.ErrRange}, {func(p *api.Plan, x *api.Phase) { p.Grid = 1 << 20 }, api.OK},
		{func(p *api.Plan, x *api.Phase) { p.Phases = nil }, api.ErrShort}, {func(p *api.Plan, x *api.Phase) { p.Phases = make([]api.Phase, 7) }, api.ErrFull}, {func(p *api.Plan, x *api.Phase) { p.Phases = []api.Phase{{}, {}} }, api.ErrRange},
		{func(p *api.Plan, x *api.Phase) { x.Tick = -1 }, api.ErrRange}, {func(p *api.Plan, x *api.Phase) {
			p.Phases[0].Tick, p.Phases[0].Age, p.Phases[0].Mud, p.Phases[0].Notice = 0, 0, api.Mud{Yield: 0, Visc: 1}, 0
		}, api.OK}, {func(p *api.Plan, x *api.Phase) { p.Phases = six() }, api.OK}, {func(p *api.Plan, x *api.Phase) { x.Tick = 1 << 40 }, api.OK}, {func(p *api.Plan, x *api.Phase) { x.Tick = 1<<40 + 1 }, api.ErrRange}, {func(p *api.Plan, x *api.Phase) { x.Age = -1 }, api.ErrRange}, {func(p *api.Plan, x *api.Phase) { x.Age = 1<<40 + 1 }, api.ErrRange},
		{func(p *api.Plan, x *api.Phase) { x.Shoe = -1 }, api.ErrRange}, {func(p *api.Plan, x *api.Phase) { x.Shoe = 100000 }, api.ErrRange}, {func(p *api.Plan, x *api.Phase) { x.To, x.Long = 100001, 0 }, api.ErrRange}, {func(p *api.Plan, x *api.Phase) { x.Sea = -1 }, api.ErrRange}, {func(p *api.Plan, x *api.Phase) { x.Sea = 100000 }, api.OK}, {func(p *api.Plan, x *api.Phase) { x.Sea = 100001 }, api.ErrRange},
		{func(p *api.Plan, x *api.Phase) { x.Light = -1 }, api.ErrRange}, {func(p *api.Plan, x *api.Phase) { x.Light = 40001 }, api.ErrRange}, {func(p *api.Plan, x *api.Phase) { x.Weight = -1 }, api.ErrRange}, {func(p *api.Plan, x *api.Phase) { x.Weight = 40001 }, api.ErrRange}, {func(p *api.Plan, x *api.Phase) { x.Top = -1 }, api.ErrRange}, {func(p *api.Plan, x *api.Phase) { x.Top = 1<<36 + 1 }, api.ErrRange}, {func(p *api.Plan, x *api.Phase) { x.Top = 1 << 36 }, api.OK},
		{func(p *api.Plan, x *api.Phase) { x.Flow = -1 }, api.ErrRange}, {func(p *api.Plan, x *api.Phase) { x.Flow = 1000001 }, api.ErrRange}, {func(p *api.Plan, x *api.Phase) { x.Flow = 1000000 }, api.OK}, {func(p *api.Plan, x *api.Phase) { x.Mud.Yield = -1 }, api.ErrRange}, {func(p *api.Plan, x *api.Phase) { x.Mud.Yield = 1000001 }, api.ErrRange}, {func(p *api.Plan, x *api.Phase) { x.Mud.Visc = 0 }, api.ErrRange}, {func(p *api.Plan, x *api.Phase) { x.Mud.Visc = 1000001 }, api.ErrRange}, {func(p *api.Plan, x *api.Phase) { x.Notice = -1 }, api.ErrRange}, {func(p *api.Plan, x *api.Phase) { x.Notice = 1<<40 + 1 }, api.ErrRange},
		{func(p *api.Plan, x *api.Phase) { x.Long = 99999 }, api.ErrRange}, {func(p *api.Plan, x *api.Phase) { x.Long = 1<<20 + 1 }, api.ErrLong}, {func(p *api.Plan, x *api.Phase) { x.Area = 0 }, api.ErrRange}, {func(p *api.Plan, x *api.Phase) { x.Gap = 201 }, api.ErrRange}, {func(p *api.Plan, x *api.Phase) { x.Long, x.Shoe, x.Job = 1<<20+1, 0, api.Job{} }, api.ErrLong},
		{func(p *api.Plan, x *api.Phase) { x.Tick = 59 }, api.ErrOrder}, {func(p *api.Plan, x *api.Phase) { x.Tick = 60 }, api.OK}, {func(p *api.Plan, x *api.Phase) { x.To, x.Job.Factor = 20000, 0 }, api.ErrRange}, {func(p *api.Plan, x *api.Phase) { x.Shoe, x.To, x.Job.Factor = 10000, 20000, 0 }, api.ErrOrder}, {func(p *api.Plan, x *api.Phase) { p.Phases[0].Shoe, x.Shoe, x.Job = 5000, 4999, api.Job{} }, api.ErrOrder}, {func(p *api.Plan, x *api.Phase) { p.Phases[0].Shoe, x.Shoe, x.Job = 5000, 5000, api.Job{} }, api.OK},
		{func(p *api.Plan, x *api.Phase) { x.Job.Factor, x.Stack = 0, tests }, api.ErrRange}, {func(p *api.Plan, x *api.Phase) { x.Job.Ends, x.Job.Factor = nil, 0 }, api.OK}, {func(p *api.Plan, x *api.Phase) { x.Job.Ends, x.Stack = []int64{19999}, tests }, api.ErrForm}, {func(p *api.Plan, x *api.Phase) { x.Job.Ends = []int64{20000, 20001} }, api.ErrForm}, {func(p *api.Plan, x *api.Phase) { x.Job.Ends = []int64{20000, 20000} }, api.ErrOrder}, {func(p *api.Plan, x *api.Phase) { x.Job.Grades = nil }, api.ErrShort},
		{func(p *api.Plan, x *api.Phase) { x.Stack, x.Sensors = tests, nil }, api.ErrFull}, {func(p *api.Plan, x *api.Phase) { x.Cased, x.Sensors = tests, nil }, api.ErrFull}, {func(p *api.Plan, x *api.Phase) { x.Stack, x.Cased = tests[1:], tests[1:] }, api.OK}, {func(p *api.Plan, x *api.Phase) { x.Sensors, x.Kicks.Rate.Lo = nil, -1 }, api.ErrShort}, {func(p *api.Plan, x *api.Phase) { x.Sensors[0].Channel, x.Kicks.Rate.Lo = 0, -1 }, api.ErrKind}, {func(p *api.Plan, x *api.Phase) { x.Kicks.Rate.Lo, x.Volumes = -1, nil }, api.ErrRange},
		{func(p *api.Plan, x *api.Phase) { x.Volumes = nil }, api.ErrShort}, {func(p *api.Plan, x *api.Phase) { x.Pores = make([]int64, 9) }, api.ErrFull}, {func(p *api.Plan, x *api.Phase) { x.Program.Kind = 0 }, api.ErrKind}, {func(p *api.Plan, x *api.Phase) { x.Well.Step = 0 }, api.ErrRange}, {func(p *api.Plan, x *api.Phase) { x.Well.Hole.Segs = nil }, api.ErrShort}, {func(p *api.Plan, x *api.Phase) { x.Volumes = []int64{5, 5} }, api.ErrOrder}, {func(p *api.Plan, x *api.Phase) { x.Volumes = []int64{0} }, api.ErrRange},
		{func(p *api.Plan, x *api.Phase) { p.Grid = 10 }, api.ErrLong}, {func(p *api.Plan, x *api.Phase) { p.Grid, x.Volumes = 10, nil }, api.ErrLong}, {func(p *api.Plan, x *api.Phase) { p.Grid, p.Phases[0].Shoe = 10, 10 }, api.ErrLong},
		{func(p *api.Plan, x *api.Phase) { p.Grid, p.Phases[0].Shoe, x.Shoe, x.Job = 10, 20, 80010, api.Job{} }, api.OK}, {func(p *api.Plan, x *api.Phase) { p.Grid, p.Phases[0].Shoe, x.Shoe, x.Job = 10, 20, 80000, api.Job{} }, api.ErrLong}, {func(p *api.Plan, x *api.Phase) { p.Grid, p.Phases[0].Shoe, x.Shoe, x.Job = 10, 20, 80009, api.Job{} }, api.ErrLong}, {func(p *api.Plan, x *api.Phase) { p.Grid, p.Phases[0].Shoe, x.Tick, x.Volumes = 10, 20, -1, nil }, api.ErrRange},
	} {
		p := two()
		c.change(&p, &p.Phases[1])
		if e := Check(p); e != c.e {
			t.Error(i, e, c.e)
		}
		v, e := Accept(p)
		if e != c.e || c.e != api.OK && (v != api.Verdict{} || Stations(p, 0) != nil || Judge(p, 0) != api.Verdict{} || Weights(p, 0) != api.Range{}) {
			t.Error(i, v, e)
		}
	}
}

func TestP10_1Static(t *testing.T) {
	x := api.Phase{Sea: 1000, Light: 9810, Weight: 12000, Top: 5, To: 3000}
	for i, c := range []struct {
		change  func(x *api.Phase)
		z, want int64
	}{
		{func(x *api.Phase) {}, 500, 4905005}, {func(x *api.Phase) {}, 2000, 21810005}, {func(x *api.Phase) {}, 0, 5}, {func(x *api.Phase) {}, 1000, 9810005}, {func(x *api.Phase) {}, 3000, 33810005}, {func(x *api.Phase) {}, 3001, 0}, {func(x *api.Phase) {}, -1, 0}, {func(x *api.Phase) {}, -1 << 63, 0},
		{func(x *api.Phase) { x.Sea = 0 }, 2000, 24000005}, {func(x *api.Phase) { x.Sea = 3001 }, 500, 0}, {func(x *api.Phase) { x.Sea = -1 }, 500, 0}, {func(x *api.Phase) { x.Light = 40001 }, 500, 0}, {func(x *api.Phase) { x.Light = -1 }, 500, 0}, {func(x *api.Phase) { x.Weight = 40001 }, 500, 0}, {func(x *api.Phase) { x.Weight = -1 }, 500, 0}, {func(x *api.Phase) { x.Top = -1 }, 500, 0}, {func(x *api.Phase) { x.Top = 1<<36 + 1 }, 500, 0}, {func(x *api.Phase) { x.To = 1<<20 + 1 }, 500, 0}, {func(x *api.Phase) { x.To = 1 << 20 }, 500, 4905005}, {func(x *api.Phase) { x.To, x.Sea = 0, 0 }, 0, 0}, {func(x *api.Phase) { x.To, x.Sea = 1, 0 }, 1, 12005},
		{func(x *api.Phase) { x.Shoe, x.Tick, x.Flow, x.Mud.Yield, x.Gap = 5000, -1, -1, -1, -1 }, 500, 4905005},
	} {
		y := x
		c.change(&y)
		if p := Static(y, c.z); p != c.want {
			t.Error(i, p)
		}
	}
}

func TestP10_1Loss(t *testing.T) {
	x := api.Phase{Long: 4000, To: 3000, Area: 300, Gap: 50, Mud: api.Mud{Yield: 100, Visc: 10}, Flow: 1}
	for i, c := range []struct {
		change  func(x *api.Phase)
		z, want int64
		ok      bool
	}{
		{func(x *api.Phase) {}, 2000, 8001, true}, {func(x *api.Phase) {}, 0, 0, true}, {func(x *api.Phase) {}, 3000, 12000, true}, {func(x *api.Phase) {}, 1, 6, true}, {func(x *api.Phase) {}, 3001, 0, false}, {func(x *api.Phase) {}, -1, 0, false}, {func(x *api.Phase) { x.Flow = 0 }, 2000, 0, true}, {func(x *api.Phase) { x.Mud.Yield = 1000000 }, 2000, 0, false},
		{func(x *api.Phase) { x.Flow = -1 }, 2000, 0, false}, {func(x *api.Phase) { x.Flow = 1000001 }, 2000, 0, false}, {func(x *api.Phase) { x.Mud.Visc = 0 }, 2000, 0, false}, {func(x *api.Phase) { x.Long = 2999 }, 2000, 0, false}, {func(x *api.Phase) { x.Long = 1<<20 + 1 }, 2000, 0, false}, {func(x *api.Phase) { x.Area = 0 }, 2000, 0, false}, {func(x *api.Phase) { x.Gap = 0 }, 2000, 0, false}, {func(x *api.Phase) { x.To = 0 }, 0, 0, false}, {func(x *api.Phase) { x.To, x.Long = 1, 1 }, 1, 3, true}, {func(x *api.Phase) { x.To = -1 << 63 }, -5, 0, false},
		{func(x *api.Phase) { x.Shoe, x.Tick, x.Notice = 5000, -1, -1 }, 2000, 8001, true},
	} {
		y := x
		c.change(&y)
		if p, ok := Loss(y, c.z); p != c.want || ok != c.ok {
			t.Error(i, p, ok)
		}
	}
}

func TestP10_2Stations(t *testing.T) {
	p := two()
	p.Grid = 30000
	p.Earth.Reports = []api.Report{{Kind: api.ReportInflux, Z: 777}, {Kind: api.ReportInflux, Z: 60000}, {Kind: api.ReportInflux, Z: 20001}}
	p.Earth.PoreLo = line(0, 0, 44444, 0, 100000, 900000000)
	for i, c := range []struct {
		phase int
		want  []int64
	}{
		{0, []int64{0, 777, 20000}}, {1, []int64{20000, 20001, 30000, 44444, 60000, 90000, 100000}}, {2, nil}, {-1, nil}, {-1 << 63, nil},
	} {
		if l := Stations(p, c.phase); !slices.Equal(l, c.want) {
			t.Error(i, l)
		}
		if c.want == nil && (Judge(p, c.phase) != api.Verdict{} || Weights(p, c.phase) != api.Range{}) {
			t.Error(i, "a phase that is not there")
		}
	}
}

func TestP10_2Judge(t *testing.T) {
	type change = func(p *api.Plan, x *api.Phase)
	for i, c := range []struct {
		change change
		why    int
		at     int64
	}{
		{func(p *api.Plan, x *api.Phase) {}, 0, 0},
		{func(p *api.Plan, x *api.Phase) { x.Weight = 12000; x.Flow = 0 }, 0, 0}, {func(p *api.Plan, x *api.Phase) { x.Weight = 11999 }, api.PlanStatic, 20000}, {func(p *api.Plan, x *api.Phase) { x.Weight, x.Sea, x.Light = 11999, 30000, 12300 }, 0, 0}, {func(p *api.Plan, x *api.Phase) { x.Weight, x.Top = 15000, 1 }, api.PlanStatic, 100000},
		{func(p *api.Plan, x *api.Phase) { x.Weight, x.Flow = 15000, 0 }, 0, 0}, {func(p *api.Plan, x *api.Phase) { x.Weight, x.Stack = 15001, nil }, api.PlanStatic, 100000}, {func(p *api.Plan, x *api.Phase) { x.Weight, p.Grid = 15004, 50 }, api.PlanStatic, 99900}, {func(p *api.Plan, x *api.Phase) { x.Weight = 15100 }, api.PlanStatic, 97000},
		{func(p *api.Plan, x *api.Phase) { x.Weight = 15000 }, api.PlanFlow, 100000}, {func(p *api.Plan, x *api.Phase) { x.Weight, x.Stack = 14999, nil }, api.PlanFlow, 100000}, {func(p *api.Plan, x *api.Phase) { x.Weight = 14997 }, api.PlanFlow, 100000}, {func(p *api.Plan, x *api.Phase) { x.Weight = 14996 }, 0, 0}, // 360,000 are lost
		{func(p *api.Plan, x *api.Phase) { x.Mud.Yield, x.Stack = 1000000, nil }, api.PlanFlow, 0}, {func(p *api.Plan, x *api.Phase) { x.Mud.Yield, x.Weight = 1000000, 11999 }, api.PlanStatic, 20000},
		{func(p *api.Plan, x *api.Phase) { x.Job.Grades[0].Burst, x.Stack = 499999999, nil }, api.PlanCasing, 0}, {func(p *api.Plan, x *api.Phase) { x.Job.Grades[0].Burst, x.Job.Ends = 0, nil }, 0, 0},
		{func(p *api.Plan, x *api.Phase) { x.Stack, x.Cased = nil, nil }, api.PlanStack, 0}, {func(p *api.Plan, x *api.Phase) { x.Stack[0].P = 499999999 }, api.PlanStack, 0}, {func(p *api.Plan, x *api.Phase) { x.Stack[0].Held = false }, api.PlanStack, 0}, {func(p *api.Plan, x *api.Phase) { x.Age = 49 }, api.PlanStack, 0}, {func(p *api.Plan, x *api.Phase) { x.Tick, x.Cased = 101, x.Cased[:0] }, api.PlanStack, 0},
		{func(p *api.Plan, x *api.Phase) { x.Cased = nil }, api.PlanCased, 0}, {func(p *api.Plan, x *api.Phase) { x.Cased[0].P, x.Notice = 499999999, 0 }, api.PlanCased, 0}, {func(p *api.Plan, x *api.Phase) { x.Cased[0].Tick = 101 }, api.PlanCased, 0}, {func(p *api.Plan, x *api.Phase) { x.Cased = append(x.Cased, api.Test{Tick: 100}) }, api.PlanCased, 0},
		{func(p *api.Plan, x *api.Phase) { x.Notice, x.Pores[0] = 57, 1 }, api.PlanLate, 58}, {func(p *api.Plan, x *api.Phase) { x.Kicks.Rate.Lo, x.Kicks.Grow.Lo = 0, 0 }, api.PlanLate, -1}, {func(p *api.Plan, x *api.Phase) { x.Volumes[0] = 223299 }, api.PlanLate, 223300}, {func(p *api.Plan, x *api.Phase) { x.Volumes[0] = 223300 }, 0, 0}, {func(p *api.Plan, x *api.Phase) { x.Volumes = []int64{5, 223299} }, api.PlanLate, 223300}, {func(p *api.Plan, x *api.Phase) { x.Volumes = []int64{5, 223300} }, 0, 0},
		{func(p *api.Plan, x *api.Phase) { x.Kicks.Rate.Hi = 2322 }, 0, 0}, {func(p *api.Plan, x *api.Phase) { x.Kicks.Rate.Hi = 2323 }, api.PlanLate, 58*2323 + 165300}, {func(p *api.Plan, x *api.Phase) { x.Kicks.Grow.Hi = 200 }, api.PlanLate, 58*1000 + 2*165300},
		{func(p *api.Plan, x *api.Phase) { x.Well.Hole.Segs[0].Rise, x.Pores[0] = 99999, 1 }, api.PlanCover, -1}, {func(p *api.Plan, x *api.Phase) { x.Well.Hole.Segs[0].Rise = 0 }, api.PlanCover, -1}, {func(p *api.Plan, x *api.Phase) { x.Pores[0], x.Well.Points[0].V = 1199999999, 1<<36 }, api.PlanCover, -2}, {func(p *api.Plan, x *api.Phase) { x.Pores = []int64{1, 1199999999} }, api.PlanCover, -2}, {func(p *api.Plan, x *api.Phase) { x.Pores = []int64{1200000000} }, 0, 0},
		{func(p *api.Plan, x *api.Phase) { x.Well.Points[0].V, x.Program.Err = 540000001, 1<<34 }, api.PlanCover, 0}, {func(p *api.Plan, x *api.Phase) { x.Well.Points[0].At = 8000001 }, api.PlanCover, 0}, {func(p *api.Plan, x *api.Phase) { x.Well.Points[0].At, x.Well.Points[0].V = 8000001, 539988000 }, 0, 0}, {func(p *api.Plan, x *api.Phase) { x.Well.Points[0].At, x.Well.Points[0].V = 8000001, 539988001 }, api.PlanCover, 0}, {func(p *api.Plan, x *api.Phase) { x.Well.Points[0].At = 7999999 }, 0, 0}, {func(p *api.Plan, x *api.Phase) {
			x.Well.Points = append([]api.Knot{{At: 0, V: 1500000000}}, x.Well.Points...)
			x.Well.Points[1].V++
		}, api.PlanCover, 1}, {func(p *api.Plan, x *api.Phase) { x.Well.Points = []api.Knot{{At: 0, V: 1500000000}} }, 0, 0}, {func(p *api.Plan, x *api.Phase) { x.Well.Points = []api.Knot{{At: 0, V: 1500000001}} }, api.PlanCover, 0},
		{func(p *api.Plan, x *api.Phase) { x.Well.Points[0].V = 407147999 }, api.PlanKill, 300000}, {func(p *api.Plan, x *api.Phase) { x.Well.Points[0].V = 407148000 }, 0, 0},
		{func(p *api.Plan, x *api.Phase) { x.Program.Margin, x.Program.Err = 10000000, 10000001 }, api.PlanKill, 300000}, {func(p *api.Plan, x *api.Phase) { x.Volumes, x.Program.Weight = []int64{7, 300000}, 12499 }, api.PlanKill, 7}, {func(p *api.Plan, x *api.Phase) { x.Volumes, x.Well.Points[0].V = []int64{7, 300000}, 407147999 }, api.PlanKill, 300000},
	} {
		p := example()
		c.change(&p, &p.Phases[0])
		want := api.Verdict{OK: c.why == 0, Why: c.why, At: c.at}
		v := Judge(p, 0)
		a, e := Accept(p)
		if v != want || a != want || e != api.OK {
			t.Error(i, v, want, e, Check(p))
		}
	}
}

// TestP10_2Highest finds the greatest pressure at the shoe, as the document's example says.
func TestP10_2Highest(t *testing.T) {
	x := lower()
	run, e := kill.Run(x.Well, x.Program, api.Bubble{Volume: 300000, Pore: 1250000000}, nil)
	most := int64(0)
	for _, m := range run {
		most = max(most, m.Points[0].Hi)
	}
	if most != 407148000 || e != api.OK {
		t.Error(most, e)
	}
}

// TestP10_9 accepts plans, and names the first phase that is not accepted.
func TestP10_9(t *testing.T) {
	p := two()
	if v, e := Accept(p); v != (api.Verdict{OK: true}) || e != api.OK {
		t.Error(v, e)
	}
	if v := Judge(p, 1); v != (api.Verdict{OK: true, Phase: 1}) {
		t.Error(v)
	}
	p.Phases[1].Cased = nil
	if v, e := Accept(p); v != (api.Verdict{Phase: 1, Why: api.PlanCased}) || e != api.OK {
		t.Error(v, e)
	}
	p.Phases[0].Weight = 0
	if v, e := Accept(p); v != (api.Verdict{Why: api.PlanStatic, At: 1000}) || e != api.OK {
		t.Error(v, e)
	}
	if v := Judge(p, 1); v != (api.Verdict{Phase: 1, Why: api.PlanCased}) {
		t.Error(v)
	}
}

func TestP10_2Weights(t *testing.T) {
	for i, c := range []struct {
		change func(p *api.Plan, x *api.Phase)
		want   api.Range
	}{
		{func(p *api.Plan, x *api.Phase) {}, api.Range{Lo: 12000, Hi: 15000}}, {func(p *api.Plan, x *api.Phase) { x.Top = 1 }, api.Range{Lo: 12000, Hi: 14999}}, {func(p *api.Plan, x *api.Phase) { x.Top = 20000 }, api.Range{Lo: 12000, Hi: 14999}}, {func(p *api.Plan, x *api.Phase) { x.Top = 100000 }, api.Range{Lo: 11999, Hi: 14999}}, {func(p *api.Plan, x *api.Phase) { x.Top, x.Weight = 100001, 0 }, api.Range{Lo: 11999, Hi: 14998}},
		{func(p *api.Plan, x *api.Phase) { x.Top = 1 << 36 }, api.Range{Lo: 1, Hi: 0}}, {func(p *api.Plan, x *api.Phase) { x.Sea, x.Light = 100000, 12500 }, api.Range{Lo: 0, Hi: 40000}}, {func(p *api.Plan, x *api.Phase) { x.Sea, x.Light = 100000, 11999 }, api.Range{Lo: 1, Hi: 0}}, {func(p *api.Plan, x *api.Phase) { x.Sea, x.Light = 100000, 15001 }, api.Range{Lo: 1, Hi: 0}}, {func(p *api.Plan, x *api.Phase) { x.Sea, x.Light = 50000, 12000 }, api.Range{Lo: 12000, Hi: 18000}}, {func(p *api.Plan, x *api.Phase) { x.Sea, x.Light = 99999, 12000 }, api.Range{Lo: 12000, Hi: 40000}},
		{func(p *api.Plan, x *api.Phase) { x.Sea, x.Light = 50000, 18000 }, api.Range{Lo: 6000, Hi: 12000}}, {func(p *api.Plan, x *api.Phase) { x.Sea, x.Light = 50000, 18001 }, api.Range{Lo: 1, Hi: 0}}, {func(p *api.Plan, x *api.Phase) { p.Earth.PoreHi = line(0, 0, 100000, 1500000000) }, api.Range{Lo: 15000, Hi: 15000}}, {func(p *api.Plan, x *api.Phase) { p.Earth.PoreHi = line(0, 0, 100000, 1500000001) }, api.Range{Lo: 1, Hi: 0}},
		{func(p *api.Plan, x *api.Phase) { p.Earth.PoreLo, p.Earth.PoreHi = line(0, 0), line(0, 0) }, api.Range{Lo: 0, Hi: 15000}}, {func(p *api.Plan, x *api.Phase) { p.Earth.FracLo = line(0, 0) }, api.Range{Lo: 1, Hi: 0}},
	} {
		p := example()
		c.change(&p, &p.Phases[0])
		if r := Weights(p, 0); r != c.want {
			t.Error(i, r, Check(p))
		}
	}
}

// TestP10_7 compares the weights with verdicts.
func TestP10_7(t *testing.T) {
	roll := dice(107)
	for range 60 {
		p := example()
		p.Grid = 20000
		x := &p.Phases[0]
		x.Volumes, x.Program.Kind, x.Well.Step = []int64{1}, api.KillBull, 10000000
		x.Sea, x.Light, x.Top = roll(100001), 9000+roll(7000), roll(200000000)
		r := Weights(p, 0)
		for _, w := range []int64{0, r.Lo - 1, r.Lo, r.Hi, r.Hi + 1, 12500, roll(40001), 40000} {
			if w < 0 || w > 40000 {
				continue
			}
			x.Weight = w
			if v := Judge(p, 0); (v.Why != api.PlanStatic) != (r.Lo <= w && w <= r.Hi) {
				t.Fatal(r, w, v)
			}
		}
	}
}

// inTime checks that the kicks of a phase are noticed before they are greater than the last volume.
func inTime(t *testing.T, x api.Phase) {
	for _, k := range []api.Kick{{Rate: x.Kicks.Rate.Lo, Grow: x.Kicks.Grow.Lo}, {Rate: x.Kicks.Rate.Hi, Grow: x.Kicks.Grow.Hi}} {
		if ticks, gain, e := kick.Caught(x.Sensors, k); ticks > x.Notice || gain > x.Volumes[len(x.Volumes)-1] || e != api.OK {
			t.Error(k, ticks, gain, e)
		}
	}
}

// keepsRock checks that all kicks of a phase are killed without a pressure that breaks the rock of a truth.
func keepsRock(t *testing.T, x api.Phase, truth api.Truth) {
	for _, v := range x.Volumes {
		for _, pore := range x.Pores {
			run, e := kill.Run(x.Well, x.Program, api.Bubble{Volume: v, Pore: pore}, []int{1, -1, 0, 1})
			if e != api.OK {
				t.Error(e)
			}
			for n, m := range run {
				for i, p := range x.Well.Points {
					if f := earth.At(truth.Frac, x.To-p.At/100); m.Points[i].Hi > f.Lo {
						t.Error(v, pore, n, i, m.Points[i], f)
					}
				}
			}
		}
	}
}

// TestP10_5 checks what follows from an accepted plan for a truth that fits: P10.5, P10.6 and P10.8.
func TestP10_5(t *testing.T) {
	truth := api.Truth{Pore: line(0, 0, 50000, 500000000, 100000, 1150000000), Frac: line(0, 350000000, 100000, 1600000000)}
	p := two()
	if !earth.Fits(p.Earth, truth) {
		t.Fatal("the truth does not fit")
	}
	for phase, x := range p.Phases {
		for _, z := range Stations(p, phase) {
			loss, ok := Loss(x, z)
			if s := Static(x, z); !ok || s < earth.At(truth.Pore, z).Hi || s+loss > earth.At(truth.Frac, z).Lo {
				t.Error(phase, z, s, loss)
			}
		}
		inTime(t, x)
		keepsRock(t, x, truth)
	}
	for _, r := range []api.Report{{Kind: api.ReportDry, Z: 100000, P: 1150000000}, {Kind: api.ReportHeld, Z: 100000, P: 1600000000}, {Kind: api.ReportInflux, Z: 0, P: 0}, {Kind: api.ReportLeak, Z: 100000, P: 1700000000}} {
		more := Copy(p)
		more.Earth, _ = earth.Add(more.Earth, r)
		if v, e := Accept(more); !earth.Fits(more.Earth, truth) || !v.OK || e != api.OK {
			t.Error(r, v, e)
		}
	}
}

func TestP10_4SameCopy(t *testing.T) {
	type change = func(p *api.Plan, x *api.Phase)
	for i, c := range []change{
		func(p *api.Plan, x *api.Phase) { p.Grid++ }, func(p *api.Plan, x *api.Phase) { p.Earth.GLo++ }, func(p *api.Plan, x *api.Phase) { p.Earth.PoreLo.Knots[0].V++ }, func(p *api.Plan, x *api.Phase) { p.Phases = p.Phases[:1] },
		func(p *api.Plan, x *api.Phase) { x.Tick++ }, func(p *api.Plan, x *api.Phase) { x.Age++ }, func(p *api.Plan, x *api.Phase) { x.Shoe++ }, func(p *api.Plan, x *api.Phase) { x.To++ }, func(p *api.Plan, x *api.Phase) { x.Sea++ }, func(p *api.Plan, x *api.Phase) { x.Light++ }, func(p *api.Plan, x *api.Phase) { x.Weight++ }, func(p *api.Plan, x *api.Phase) { x.Top++ }, func(p *api.Plan, x *api.Phase) { x.Long++ }, func(p *api.Plan, x *api.Phase) { x.Area++ }, func(p *api.Plan, x *api.Phase) { x.Gap++ },
		func(p *api.Plan, x *api.Phase) { x.Mud.Yield++ }, func(p *api.Plan, x *api.Phase) { x.Mud.Visc++ }, func(p *api.Plan, x *api.Phase) { x.Flow++ }, func(p *api.Plan, x *api.Phase) { x.Notice++ }, func(p *api.Plan, x *api.Phase) { x.Job.Ends[0]++ }, func(p *api.Plan, x *api.Phase) { x.Job.Loads[0].In.Knots[0].V++ }, func(p *api.Plan, x *api.Phase) { x.Job.Grades[0].Cost++ }, func(p *api.Plan, x *api.Phase) { x.Stack[0].Held = false }, func(p *api.Plan, x *api.Phase) { x.Cased[0].P++ },
		func(p *api.Plan, x *api.Phase) { x.Sensors[0].Hold++ }, func(p *api.Plan, x *api.Phase) { x.Kicks.Rate.Hi++ }, func(p *api.Plan, x *api.Phase) { x.Well.Hole.Segs[0].Gap++ }, func(p *api.Plan, x *api.Phase) { x.Well.Weight++ }, func(p *api.Plan, x *api.Phase) { x.Well.Points[0].V++ }, func(p *api.Plan, x *api.Phase) { x.Well.Limit++ }, func(p *api.Plan, x *api.Phase) { x.Well.Pipe++ }, func(p *api.Plan, x *api.Phase) { x.Well.Step++ }, func(p *api.Plan, x *api.Phase) { x.Program.Err++ }, func(p *api.Plan, x *api.Phase) { x.Volumes[0]++ }, func(p *api.Plan, x *api.Phase) { x.Pores[0]++ },
	} {
		a := two()
		b := Copy(a)
		if !Same(a, b) || !Same(a, two()) {
			t.Error(i, "a copy is not the same")
		}
		c(&b, &b.Phases[1])
		if Same(a, b) || Same(b, a) || !Same(a, two()) {
			t.Error(i, "a change is not seen, or seen in both")
		}
	}
	odd := api.Plan{Grid: -1, Phases: []api.Phase{{Tick: -1, Stack: []api.Test{}, Pores: []int64{}}}}
	if !Same(odd, api.Plan{Grid: -1, Phases: []api.Phase{{Tick: -1}}}) || !Same(Copy(odd), odd) || !Same(api.Plan{}, api.Plan{Phases: []api.Phase{}}) {
		t.Error("nil and empty lists differ")
	}
}
