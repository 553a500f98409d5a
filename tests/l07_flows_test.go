package tests

import (
	"fmt"
	"math"
	"math/big"
	"math/rand"
	"reflect"
	"slices"
	"testing"

	"loop.example/g01021/impl"
)

// The declarations of chapter 7, which must keep their types.
var (
	_ func(impl.Mine) ([]int64, int64)                                                                        = impl.ResistancesOf
	_ func(impl.Mine, []int64) bool                                                                           = impl.IsBalanced
	_ func(impl.Mine, []int64, int64) (int64, int64)                                                          = impl.ImbalanceAt
	_ func(impl.Mine, []int64) ([]int64, int64)                                                               = impl.FlowsOfMeshes
	_ func(impl.Mine, []impl.Fan, []int64, []int64) ([]int64, int64)                                          = impl.PushesOf
	_ func(impl.Mine, []int64, []int64, []int64) ([]int64, int64)                                             = impl.MeshErrors
	_ func(impl.Mine, []int64, []int64, []int64, int64) ([]int64, int64)                                      = impl.CorrectMesh
	_ func(impl.Mine, []int64, []impl.Fan, []int64, []int64, int64, int64) (flows []int64, worst, code int64) = impl.SolveFlows
	_ func(impl.Mine, []int64, []int64) (int64, int64)                                                        = impl.LossPower
	_ func(impl.Mine, []int64, int64) ([]int64, int64)                                                        = impl.StillAirways
	_ [impl.MaxDraught]struct{}                                                                               = [100000]struct{}{}
	_ [impl.MaxRounds]struct{}                                                                                = [500]struct{}{}
	_ [impl.MaxStep]struct{}                                                                                  = [10000]struct{}{}
)

// outcome is what a function with a list or a number, or both, and a code returns.
type outcome struct {
	list         []int64
	number, code int64
}

func listed(list []int64, code int64) outcome { return outcome{list, 0, code} }

func solved(list []int64, number, code int64) outcome { return outcome{list, number, code} }

func counted(number, code int64) outcome { return outcome{nil, number, code} }

func nothing(code int64) outcome { return outcome{nil, 0, code} }

func (o outcome) is(other outcome) bool {
	return slices.Equal(o.list, other.list) && o.number == other.number && o.code == other.code
}

func expectOutcome(t *testing.T, got, want outcome, name string, args ...any) {
	t.Helper()
	if !got.is(want) {
		t.Errorf("%s of %v: got %v, want %v", name, args, got, want)
	}
}

// setting is a mine with all other arguments of the functions of chapter 7.
type setting struct {
	m                                          impl.Mine
	fans                                       []impl.Fan
	resistances, draught, pushes, flows, start []int64
	amounts                                    []int64
	junction, mesh, tolerance, rounds, least   int64
}

// outcomesOf returns what each function of chapter 7 with a code returns.
func outcomesOf(s setting) map[string]outcome {
	return map[string]outcome{
		"ResistancesOf": listed(impl.ResistancesOf(s.m)),
		"ImbalanceAt":   counted(impl.ImbalanceAt(s.m, s.flows, s.junction)),
		"FlowsOfMeshes": listed(impl.FlowsOfMeshes(s.m, s.amounts)),
		"PushesOf":      listed(impl.PushesOf(s.m, s.fans, s.draught, s.flows)),
		"MeshErrors":    listed(impl.MeshErrors(s.m, s.resistances, s.pushes, s.flows)),
		"CorrectMesh":   listed(impl.CorrectMesh(s.m, s.resistances, s.pushes, s.flows, s.mesh)),
		"SolveFlows":    solved(impl.SolveFlows(s.m, s.resistances, s.fans, s.draught, s.start, s.tolerance, s.rounds)),
		"LossPower":     counted(impl.LossPower(s.m, s.resistances, s.flows)),
		"StillAirways":  listed(impl.StillAirways(s.m, s.flows, s.least)),
	}
}

// loop returns two airways that make a mesh, run through along both.
func loop() impl.Mine { return mineOf(2, [2]int64{0, 1}, [2]int64{1, 0}) }

// fork returns three airways that make two meshes, both run through along theirs.
func fork() impl.Mine { return mineOf(2, [2]int64{0, 1}, [2]int64{1, 0}, [2]int64{1, 0}) }

func inAirway(f impl.Fan, airway int64) impl.Fan {
	f.Airway = airway
	return f
}

func faultsOfMineAndFans(s setting) []fault[setting] {
	all := "ResistancesOf ImbalanceAt FlowsOfMeshes PushesOf MeshErrors CorrectMesh SolveFlows LossPower StillAirways"
	ofMine := faultOfMine(all, func(s *setting, m impl.Mine) { s.m = m })
	ofFans := fault[setting]{argument: "fans", code: impl.ErrInvalid, in: "PushesOf SolveFlows"}
	for _, list := range invalidFanLists() {
		ofFans.changes = append(ofFans.changes, func(s *setting) { s.fans = list })
	}
	nowhere := fault[setting]{argument: "fans", code: impl.ErrOrder, in: "PushesOf SolveFlows"}
	for _, airway := range []int64{int64(len(s.m.Airways)), 23} {
		nowhere.changes = append(nowhere.changes,
			func(s *setting) { s.fans = []impl.Fan{inAirway(levelFan("a", 0), airway)} },
			func(s *setting) { s.fans = []impl.Fan{levelFan("a", 0), inAirway(levelFan("b", 0), airway)} },
			func(s *setting) { s.fans = []impl.Fan{inAirway(levelFan("a", 0), airway), levelFan("b", 0)} })
	}
	narrow := fault[setting]{argument: "m", code: impl.ErrState, in: "ResistancesOf"}
	for k := range s.m.Airways {
		narrow.changes = append(narrow.changes, func(s *setting) {
			s.m.Airways = slices.Clone(s.m.Airways)
			s.m.Airways[k].Section, s.m.Airways[k].Length = 50, 10000
		})
	}
	return []fault[setting]{ofMine, ofFans, nowhere, narrow}
}

// faultsOf returns the faults of all arguments of a setting.
func faultsOf(s setting) []fault[setting] {
	tilted, crowded := slices.Clone(s.start), slices.Repeat([]int64{100000}, len(s.amounts))
	tilted[0]++
	faults := append(faultsOfMineAndFans(s),
		faultOfNumber("junction", "ImbalanceAt", 0, s.m.Junctions-1, func(s *setting, n int64) { s.junction = n }),
		faultOfNumber("mesh", "CorrectMesh", 0, int64(len(s.amounts))-1, func(s *setting, n int64) { s.mesh = n }),
		faultOfNumber("tolerance", "SolveFlows", 0, 100000, func(s *setting, n int64) { s.tolerance = n }),
		faultOfNumber("rounds", "SolveFlows", 0, 500, func(s *setting, n int64) { s.rounds = n }),
		faultOfNumber("least", "StillAirways", 0, 100000, func(s *setting, n int64) { s.least = n }),
		faultOfLists("flows", impl.ErrOrder, "ImbalanceAt PushesOf MeshErrors CorrectMesh LossPower StillAirways", wrongLists(s.flows, -100000, 100000), func(s *setting, list []int64) { s.flows = list }),
		faultOfLists("resistances", impl.ErrOrder, "MeshErrors CorrectMesh SolveFlows LossPower", wrongLists(s.resistances, 1, 1000000), func(s *setting, list []int64) { s.resistances = list }),
		faultOfLists("pushes", impl.ErrOrder, "MeshErrors CorrectMesh", wrongLists(s.pushes, -100000, 100000), func(s *setting, list []int64) { s.pushes = list }),
		faultOfLists("draught", impl.ErrOrder, "PushesOf SolveFlows", wrongLists(s.draught, -100000, 100000), func(s *setting, list []int64) { s.draught = list }),
		faultOfLists("start", impl.ErrOrder, "SolveFlows", wrongLists(s.start, -100000, 100000), func(s *setting, list []int64) { s.start = list }),
		faultOfLists("amounts", impl.ErrOrder, "FlowsOfMeshes", wrongLists(s.amounts, -100000, 100000), func(s *setting, list []int64) { s.amounts = list }),
		fault[setting]{"start", impl.ErrState, "SolveFlows", []func(s *setting){func(s *setting) { s.start = tilted }}})
	if len(s.amounts) > 1 {
		faults = append(faults, fault[setting]{"amounts", impl.ErrState, "FlowsOfMeshes", []func(s *setting){func(s *setting) { s.amounts = crowded }}})
	}
	return faults
}

// goodSettings returns settings for which all functions return OK.
func goodSettings() []setting {
	return []setting{
		{
			m: triangle(), fans: []impl.Fan{inAirway(levelFan("a", 5), 2)}, resistances: []int64{7, 8, 9}, draught: []int64{1, 0, -1}, pushes: []int64{3, -2, 1},
			flows: []int64{5, -6, 0}, start: []int64{4, 4, 4}, amounts: []int64{9}, junction: 1, tolerance: 5, rounds: 2, least: 3,
		},
		{
			m: fork(), resistances: []int64{1, 1000000, 7}, draught: []int64{100000, -100000, 0}, pushes: []int64{-100000, 100000, 0},
			flows: []int64{5, 6, 0}, start: []int64{0, 5, -5}, amounts: []int64{-9, 100000}, mesh: 1, tolerance: 100000, least: 100000,
		},
	}
}

func TestErrorsOfFlows(t *testing.T) {
	for _, good := range goodSettings() {
		expectErrors(t, good, outcomesOf, faultsOf(good))
	}
}

// anyNumbers returns numbers from low to high, among them many at these and at 0 or what is nearest to it.
func anyNumbers(random *rand.Rand, count int, low, high int64) []int64 {
	list := make([]int64, count)
	most := []int64{high, min(high, 2000), min(high, 20)}[random.Intn(3)]
	for i := range list {
		least := max(low, -most)
		list[i] = least + random.Int63n(most-least+1)
		if random.Intn(5) == 0 {
			list[i] = []int64{low, high, max(low, 0)}[random.Intn(3)]
		}
	}
	return list
}

// fansIn returns fans that stand in airways of a mine, some of them in the same one.
func fansIn(random *rand.Rand, m impl.Mine) []impl.Fan {
	if len(m.Airways) == 0 {
		return nil
	}
	list := fansNamed(mainFan(), random.Intn(9))
	for i := range list {
		list[i].Airway, list[i].Curve = random.Int63n(int64(len(m.Airways))), randomFan(random).Curve
	}
	return list
}

// wantAdded adds an amount along a walk to flows.
func wantAdded(flows, walk []int64, amount int64) []int64 {
	list := slices.Clone(flows)
	for _, step := range walk {
		if step > 0 {
			list[step-1] += amount
		} else {
			list[-step-1] -= amount
		}
	}
	return list
}

func wantImbalance(m impl.Mine, flows []int64, junction int64) int64 {
	sum := int64(0)
	for k, a := range m.Airways {
		if a.To == junction {
			sum += flows[k]
		}
		if a.From == junction {
			sum -= flows[k]
		}
	}
	return sum
}

func wantBalanced(m impl.Mine, flows []int64) bool {
	for j := range m.Junctions {
		if wantImbalance(m, flows, j) != 0 {
			return false
		}
	}
	return true
}

func wantPushes(fans []impl.Fan, draught, flows []int64) []int64 {
	list := slices.Clone(draught)
	for _, f := range fans {
		list[f.Airway] += wantPressure(f, flows[f.Airway])
	}
	return list
}

func wantError(resistances, pushes, flows, walk []int64) int64 {
	sum := int64(0)
	for _, step := range walk {
		if k := max(step, -step) - 1; step > 0 {
			sum += wantDrop(resistances[k], flows[k]) - pushes[k]
		} else {
			sum -= wantDrop(resistances[k], flows[k]) - pushes[k]
		}
	}
	return sum
}

func wantStep(resistances, pushes, flows, walk []int64) int64 {
	e, slope, all := wantError(resistances, pushes, flows, walk), int64(0), int64(0)
	for _, k := range indicesOf(walk) {
		slope += 2 * resistances[k] * max(flows[k], -flows[k])
		all += resistances[k]
	}
	step := new(big.Int).Sqrt(big.NewInt(max(e, -e) * 10000000000 / all)).Int64()
	if e > 0 {
		step = -step
	}
	if slope > 0 {
		step = quotient(-e*10000000000, slope)
	}
	return min(10000, max(-10000, step))
}

func wantSolution(s setting) outcome {
	if !wantBalanced(s.m, s.start) {
		return nothing(impl.ErrState)
	}
	meshes, _ := impl.MeshesOf(s.m)
	flows := s.start
	for round := int64(0); ; round++ {
		worst := int64(0)
		for _, mesh := range meshes {
			e := wantError(s.resistances, wantPushes(s.fans, s.draught, flows), flows, mesh)
			worst = max(worst, e, -e)
		}
		if worst <= s.tolerance {
			return solved(flows, worst, impl.OK)
		}
		if round == s.rounds {
			return solved(nil, worst, impl.ErrFull)
		}
		for _, mesh := range meshes {
			pushes := wantPushes(s.fans, s.draught, flows)
			flows = wantAdded(flows, mesh, wantStep(s.resistances, pushes, flows, mesh))
			if !from(-100000, 100000, flows...) {
				return nothing(impl.ErrState)
			}
		}
	}
}

// randomSetting returns a setting in which all lists are as stated, with a start that is balanced.
func randomSetting(random *rand.Rand, m impl.Mine) setting {
	count := len(m.Airways)
	meshes, _ := impl.MeshesOf(m)
	s := setting{
		m: m, fans: fansIn(random, m), resistances: anyNumbers(random, count, 1, 1000000),
		draught: anyNumbers(random, count, -100000, 100000), pushes: anyNumbers(random, count, -100000, 100000), flows: anyNumbers(random, count, -100000, 100000),
		start: make([]int64, count), amounts: anyNumbers(random, len(meshes), -100000, 100000),
		tolerance: anyNumbers(random, 1, 0, 100000)[0], rounds: anyNumbers(random, 1, 0, 500)[0], least: anyNumbers(random, 1, 0, 100000)[0],
	}
	if random.Intn(2) == 0 {
		// Fans alone, without draught, are less than what the greatest steps need.
		s.draught = make([]int64, count)
	}
	if random.Intn(2) == 0 {
		for _, mesh := range meshes {
			s.start = wantAdded(s.start, mesh, random.Int63n(8000)-4000)
		}
	}
	return s
}

func randomSettings() []setting {
	random := rand.New(rand.NewSource(7))
	var list []setting
	for _, m := range validMines() {
		list = append(list, randomSetting(random, m), randomSetting(random, m))
	}
	return list
}

func TestResistancesOf(t *testing.T) {
	mines := validMines()
	for _, a := range validAirways() {
		other := airwayBetween(0, 0, 1)
		first, last := a, a
		first.Id, last.Id = "a", "z"
		mines = append(mines, impl.Mine{Junctions: 16, Airways: []impl.Airway{a}},
			impl.Mine{Junctions: 16, Airways: []impl.Airway{first, other}}, impl.Mine{Junctions: 16, Airways: []impl.Airway{other, last}})
	}
	for _, m := range mines {
		want := nothing(impl.OK)
		for _, a := range m.Airways {
			resistance := wantQuotient(a, a.Section)
			if resistance > 1000000 {
				want = nothing(impl.ErrState)
				break
			}
			want.list = append(want.list, resistance)
		}
		expectOutcome(t, listed(impl.ResistancesOf(m)), want, "ResistancesOf", m)
	}
}

func TestResistancesByHand(t *testing.T) {
	m := loop()
	for i := range m.Airways {
		m.Airways[i].Length = 500
	}
	expectOutcome(t, listed(impl.ResistancesOf(m)), listed([]int64{63240, 63240}, impl.OK), "ResistancesOf", m)
	m.Airways[1].Section = 60
	expectOutcome(t, listed(impl.ResistancesOf(m)), nothing(impl.ErrState), "ResistancesOf", m)
	expectOutcome(t, listed(impl.ResistancesOf(impl.Mine{Junctions: 1})), nothing(impl.OK), "ResistancesOf", "no airways")
}

func TestBalance(t *testing.T) {
	for _, s := range randomSettings() {
		for _, flows := range [][]int64{s.flows, s.start, make([]int64, len(s.flows))} {
			for j := range s.m.Junctions {
				expect(t, answerOf(impl.ImbalanceAt(s.m, flows, j)), answer{wantImbalance(s.m, flows, j), impl.OK}, "ImbalanceAt", s.m, flows, j)
			}
			if got := impl.IsBalanced(s.m, flows); got != wantBalanced(s.m, flows) {
				t.Errorf("IsBalanced(%v, %v) = %v", s.m, flows, got)
			}
		}
		for _, flows := range wrongLists(s.start, -100000, 100000) {
			if impl.IsBalanced(s.m, flows) {
				t.Errorf("%v in %v, which are no flows of it, are balanced", flows, s.m)
			}
		}
	}
	for _, m := range invalidMines() {
		for _, flows := range [][]int64{nil, make([]int64, len(m.Airways))} {
			if impl.IsBalanced(m, flows) {
				t.Errorf("%v are balanced in %v", flows, m)
			}
		}
	}
}

func TestBalanceByHand(t *testing.T) {
	// 0 leads to 1, 1 to 2, 2 to 0, and 0 to 2.
	m := mineOf(4, [2]int64{0, 1}, [2]int64{1, 2}, [2]int64{2, 0}, [2]int64{0, 2})
	for junction, want := range []int64{10 - 1 - 1000, 1 - 100, 100 + 1000 - 10, 0} {
		flows := []int64{1, 100, 10, 1000}
		expect(t, answerOf(impl.ImbalanceAt(m, flows, int64(junction))), answer{want, impl.OK}, "ImbalanceAt", m, flows, junction)
	}
	for _, c := range []struct {
		flows []int64
		want  bool
	}{
		{[]int64{0, 0, 0, 0}, true}, {[]int64{5, 5, 5, 0}, true}, {[]int64{5, 5, 12, 7}, true}, {[]int64{-5, -5, 95000, 95005}, true}, {[]int64{5, 5, 0, -5}, true},
		{[]int64{5, 5, 4, 0}, false}, {[]int64{5, 5, 5, 1}, false}, {[]int64{5, 4, 5, 1}, false}, {[]int64{5, 5, 5}, false}, {[]int64{5, 5, 5, 0, 0}, false}, {nil, false},
		// As much comes to each junction as leaves it, but one is no flow.
		{[]int64{1, 1, 100000, 99999}, true}, {[]int64{1, 1, 100001, 100000}, false}, {[]int64{-1, -1, -100001, -100000}, false},
	} {
		if got := impl.IsBalanced(m, c.flows); got != c.want {
			t.Errorf("IsBalanced(%v, %v) = %v", m, c.flows, got)
		}
	}
	// Two junctions take up what one lacks: no sum over junctions tells it.
	if impl.IsBalanced(line(), slices.Repeat([]int64{7}, 15)) {
		t.Error("air may leave a junction that none comes to")
	}
}

// TestFlowsOfMeshesAreBalanced covers the part of P8 that flows of meshes keep.
func TestFlowsOfMeshesAreBalanced(t *testing.T) {
	good := 0
	for _, s := range randomSettings() {
		meshes, _ := impl.MeshesOf(s.m)
		want := listed(make([]int64, len(s.m.Airways)), impl.OK)
		for i, mesh := range meshes {
			want.list = wantAdded(want.list, mesh, s.amounts[i])
		}
		if !from(-100000, 100000, want.list...) {
			want = nothing(impl.ErrState)
		}
		got := listed(impl.FlowsOfMeshes(s.m, s.amounts))
		expectOutcome(t, got, want, "FlowsOfMeshes", s.m, s.amounts)
		if got.code == impl.OK {
			good++
			if len(got.list) != len(s.m.Airways) || !wantBalanced(s.m, got.list) || !impl.IsBalanced(s.m, got.list) {
				t.Errorf("FlowsOfMeshes(%v, %v) = %v", s.m, s.amounts, got.list)
			}
		}
	}
	if good < 300 {
		t.Errorf("only %d amounts make flows", good)
	}
}

func TestFlowsOfMeshesByHand(t *testing.T) {
	back := mineOf(2, [2]int64{0, 1}, [2]int64{1, 0}, [2]int64{0, 1}, [2]int64{1, 0})
	cases := []struct {
		m       impl.Mine
		amounts []int64
		want    outcome
	}{
		{impl.Mine{Junctions: 1}, nil, nothing(impl.OK)},
		{line(), nil, listed(make([]int64, 15), impl.OK)},
		{line(), []int64{0}, nothing(impl.ErrOrder)},
		{loop(), []int64{700}, listed([]int64{700, 700}, impl.OK)},
		{loop(), []int64{-700}, listed([]int64{-700, -700}, impl.OK)},
		{loop(), []int64{100000}, listed([]int64{100000, 100000}, impl.OK)},
		{loop(), []int64{100001}, nothing(impl.ErrOrder)},
		{loop(), []int64{-100001}, nothing(impl.ErrOrder)},
		{loop(), nil, nothing(impl.ErrOrder)},
		{loop(), []int64{1, 1}, nothing(impl.ErrOrder)},
		{mineOf(3, [2]int64{0, 1}, [2]int64{1, 2}, [2]int64{0, 2}), []int64{9}, listed([]int64{-9, -9, 9}, impl.OK)},
		{fork(), []int64{5, 7}, listed([]int64{12, 5, 7}, impl.OK)},
		{fork(), []int64{60000, 40000}, listed([]int64{100000, 60000, 40000}, impl.OK)},
		{fork(), []int64{60000, 40001}, nothing(impl.ErrState)},
		{fork(), []int64{-60000, -40001}, nothing(impl.ErrState)},
		{fork(), []int64{100000, -100000}, listed([]int64{0, 100000, -100000}, impl.OK)},
		// What matters is the result, not what comes before it: the meshes are 2 1, 3 -1 and 4 1.
		{back, []int64{100000, 100000, 100000}, listed([]int64{100000, 100000, 100000, 100000}, impl.OK)},
		{back, []int64{100000, -100000, -100000}, listed([]int64{100000, 100000, -100000, -100000}, impl.OK)},
		{back, []int64{100000, -1, 0}, nothing(impl.ErrState)},
	}
	for _, c := range cases {
		expectOutcome(t, listed(impl.FlowsOfMeshes(c.m, c.amounts)), c.want, "FlowsOfMeshes", c.m, c.amounts)
	}
}

func TestLossPower(t *testing.T) {
	for _, s := range randomSettings() {
		want := answer{0, impl.OK}
		for k, flow := range s.flows {
			size := max(flow, -flow)
			want.value += quotient(wantDrop(s.resistances[k], size)*size, 100)
		}
		expect(t, answerOf(impl.LossPower(s.m, s.resistances, s.flows)), want, "LossPower", s.resistances, s.flows)
	}
	for _, c := range []struct {
		resistances, flows []int64
		want               int64
	}{
		{[]int64{5000, 5000}, []int64{10000, 10000}, 10000},
		{[]int64{5000, 5000}, []int64{-10000, 10000}, 10000},
		{[]int64{5000, 1}, []int64{-10000, 0}, 5000},
		{[]int64{1000000, 1000000}, []int64{100000, -100000}, 2000000000},
		// Each power is rounded for itself: 1 pascal with 50 is half a watt.
		{[]int64{1000000, 1000000}, []int64{100, 100}, 2},
		{[]int64{3000000 / 4, 750000}, []int64{82, -82}, 2},
		{[]int64{750000, 750000}, []int64{81, -81}, 0},
	} {
		expect(t, answerOf(impl.LossPower(loop(), c.resistances, c.flows)), answer{c.want, impl.OK}, "LossPower", c.resistances, c.flows)
	}
	expect(t, answerOf(impl.LossPower(impl.Mine{Junctions: 1}, nil, nil)), answer{0, impl.OK}, "LossPower", "no airways")
}

func TestStillAirways(t *testing.T) {
	for _, s := range randomSettings() {
		for _, least := range []int64{s.least, 0, 1, 2, 21, 99999, 100000} {
			var want []int64
			for k, flow := range s.flows {
				if flow < least && -flow < least {
					want = append(want, int64(k))
				}
			}
			got, code := impl.StillAirways(s.m, s.flows, least)
			expectList(t, got, code, want, "StillAirways", s.flows, least)
		}
	}
	flows := []int64{50, -50, 49, -49, 0, 100000, -100000, 99999}
	m := sideBySide()
	m.Airways = m.Airways[:len(flows)]
	for least, want := range map[int64][]int64{0: nil, 1: {4}, 49: {4}, 50: {2, 3, 4}, 51: {0, 1, 2, 3, 4}, 100000: {0, 1, 2, 3, 4, 7}} {
		got, code := impl.StillAirways(m, flows, least)
		expectList(t, got, code, want, "StillAirways", flows, least)
	}
}

func TestPushesOf(t *testing.T) {
	for _, s := range randomSettings() {
		for _, flows := range [][]int64{s.flows, s.start} {
			if from(-100000, 100000, flows...) {
				expectOutcome(t, listed(impl.PushesOf(s.m, s.fans, s.draught, flows)), listed(wantPushes(s.fans, s.draught, flows), impl.OK), "PushesOf", s)
			}
		}
	}
}

func TestPushesByHand(t *testing.T) {
	first, second := inAirway(mainFan(), 1), inAirway(levelFan("g", 30), 1)
	full := fansNamed(inAirway(levelFan("f", 10000), 1), 8)
	cases := []struct {
		fans                 []impl.Fan
		draught, flows, want []int64
	}{
		{[]impl.Fan{first}, []int64{100, 0}, []int64{5000, 5000}, []int64{100, 500}},
		// A flow against a fan has its first pressure, one behind its curve the last one.
		{[]impl.Fan{first}, []int64{100, -7}, []int64{5000, -5000}, []int64{100, 993}},
		{[]impl.Fan{first}, []int64{100, -7}, []int64{5000, 100000}, []int64{100, -7}},
		// Each fan has the flow of its own airway, and several add up.
		{[]impl.Fan{mainFan(), second}, []int64{0, 0}, []int64{2000, 9000}, []int64{800, 30}},
		{[]impl.Fan{first, second}, []int64{0, 1}, []int64{2000, 9000}, []int64{0, 131}},
		{nil, []int64{-100000, 100000}, []int64{7, 8}, []int64{-100000, 100000}},
		// All pushes together may be greater than a draught.
		{full, []int64{-100000, 100000}, []int64{7, 8}, []int64{-100000, 180000}},
	}
	for _, c := range cases {
		expectOutcome(t, listed(impl.PushesOf(loop(), c.fans, c.draught, c.flows)), listed(c.want, impl.OK), "PushesOf", c)
	}
	expectOutcome(t, listed(impl.PushesOf(impl.Mine{Junctions: 1}, nil, nil, nil)), nothing(impl.OK), "PushesOf", "no airways")
	expectOutcome(t, listed(impl.PushesOf(impl.Mine{Junctions: 1}, []impl.Fan{mainFan()}, nil, nil)), nothing(impl.ErrOrder), "PushesOf", "a fan in no airway")
	last := inAirway(mainFan(), 23)
	want := make([]int64, 24)
	want[23] = 1000
	expectOutcome(t, listed(impl.PushesOf(grid(), []impl.Fan{last}, make([]int64, 24), make([]int64, 24))), listed(want, impl.OK), "PushesOf", last)
}

func TestMeshErrors(t *testing.T) {
	for _, s := range randomSettings() {
		meshes, _ := impl.MeshesOf(s.m)
		var want []int64
		for _, mesh := range meshes {
			want = append(want, wantError(s.resistances, s.pushes, s.flows, mesh))
		}
		expectOutcome(t, listed(impl.MeshErrors(s.m, s.resistances, s.pushes, s.flows)), listed(want, impl.OK), "MeshErrors", s)
	}
}

func TestMeshErrorsByHand(t *testing.T) {
	against := mineOf(3, [2]int64{0, 1}, [2]int64{1, 2}, [2]int64{0, 2})
	most := slices.Repeat([]int64{1000000}, 24)
	all := slices.Repeat([]int64{100000}, 24)
	cases := []struct {
		m                                impl.Mine
		resistances, pushes, flows, want []int64
	}{
		// The document's example.
		{loop(), []int64{5000, 5000}, []int64{100, 0}, []int64{10000, 10000}, []int64{0}},
		{loop(), []int64{5000, 5000}, []int64{0, 100}, []int64{10000, 10000}, []int64{0}},
		{loop(), []int64{5000, 5000}, []int64{0, 0}, []int64{0, 0}, []int64{0}},
		{loop(), []int64{5000, 5000}, []int64{100, 0}, []int64{-10000, -10000}, []int64{-200}},
		{loop(), []int64{5000, 5000}, []int64{100, 20}, []int64{0, 10000}, []int64{-70}},
		// The mesh is 3 -2 -1: drops and pushes of the first two airways count with the opposite sign.
		{against, []int64{10000, 20000, 30000}, []int64{1, 20, 300}, []int64{10000, 10000, 10000}, []int64{(300 - 300) - (100 - 1) - (200 - 20)}},
		{against, []int64{10000, 20000, 30000}, []int64{1, 20, 300}, []int64{-10000, -10000, 0}, []int64{(0 - 300) - (-100 - 1) - (-200 - 20)}},
		{fork(), []int64{10000, 20000, 30000}, []int64{1, 20, 300}, []int64{20000, 10000, 10000}, []int64{400 - 1 + 200 - 20, 400 - 1 + 300 - 300}},
		{line(), most[:15], all[:15], all[:15], nil},
		{impl.Mine{Junctions: 1}, nil, nil, nil, nil},
		// The greatest drops and the greatest pushes against them.
		{loop(), most[:2], []int64{-100000, -100000}, all[:2], []int64{2200000}},
		{loop(), most[:2], all[:2], []int64{-100000, -100000}, []int64{-2200000}},
	}
	for _, c := range cases {
		expectOutcome(t, listed(impl.MeshErrors(c.m, c.resistances, c.pushes, c.flows)), listed(c.want, impl.OK), "MeshErrors", c)
	}
}

// TestCorrectMesh also covers the part of P8 that corrected flows keep.
func TestCorrectMesh(t *testing.T) {
	codes := map[int64]int{}
	for _, s := range randomSettings() {
		meshes, _ := impl.MeshesOf(s.m)
		for i, mesh := range meshes {
			for _, flows := range [][]int64{s.flows, s.start, make([]int64, len(s.flows))} {
				if !from(-100000, 100000, flows...) {
					continue
				}
				want := listed(wantAdded(flows, mesh, wantStep(s.resistances, s.pushes, flows, mesh)), impl.OK)
				if !from(-100000, 100000, want.list...) {
					want = nothing(impl.ErrState)
				}
				got := listed(impl.CorrectMesh(s.m, s.resistances, s.pushes, flows, int64(i)))
				expectOutcome(t, got, want, "CorrectMesh", s, flows, i)
				for j := range s.m.Junctions {
					if got.code == impl.OK && wantImbalance(s.m, got.list, j) != wantImbalance(s.m, flows, j) {
						t.Errorf("CorrectMesh makes %v of %v in %v", got.list, flows, s.m)
					}
				}
				codes[got.code]++
			}
		}
	}
	if codes[impl.OK] < 1000 || codes[impl.ErrState] < 100 {
		t.Errorf("the codes are %v", codes)
	}
}

func TestStepsByHand(t *testing.T) {
	equal, most := []int64{5000, 5000}, []int64{1000000, 1000000}
	against := mineOf(3, [2]int64{0, 1}, [2]int64{1, 2}, [2]int64{0, 2})
	cases := []struct {
		m                          impl.Mine
		resistances, pushes, flows []int64
		mesh                       int64
		want                       outcome
	}{
		// 74 pascals are missing, and a flow of 1 more brings a hundredth.
		{loop(), equal, []int64{100, 0}, []int64{5000, 5000}, 0, listed([]int64{12400, 12400}, impl.OK)},
		{loop(), equal, []int64{-100, 0}, []int64{-5000, -5000}, 0, listed([]int64{-12400, -12400}, impl.OK)},
		{loop(), equal, []int64{100, 0}, []int64{10000, 10000}, 0, listed([]int64{10000, 10000}, impl.OK)},
		// Without flow the root tells the step, which is rounded down, with either sign and at most the greatest one.
		{loop(), equal, []int64{100, 0}, []int64{0, 0}, 0, listed([]int64{10000, 10000}, impl.OK)},
		{loop(), equal, []int64{-100, 0}, []int64{0, 0}, 0, listed([]int64{-10000, -10000}, impl.OK)},
		{loop(), equal, []int64{99, 0}, []int64{0, 0}, 0, listed([]int64{9949, 9949}, impl.OK)},
		{loop(), equal, []int64{0, -99}, []int64{0, 0}, 0, listed([]int64{-9949, -9949}, impl.OK)},
		{loop(), equal, []int64{101, 0}, []int64{0, 0}, 0, listed([]int64{10000, 10000}, impl.OK)},
		{loop(), equal, []int64{0, -101}, []int64{0, 0}, 0, listed([]int64{-10000, -10000}, impl.OK)},
		{loop(), equal, []int64{-100000, -100000}, []int64{0, 0}, 0, listed([]int64{-10000, -10000}, impl.OK)},
		{loop(), []int64{1, 1}, []int64{1, 0}, []int64{0, 0}, 0, listed([]int64{10000, 10000}, impl.OK)},
		{loop(), most, []int64{1, 0}, []int64{0, 0}, 0, listed([]int64{70, 70}, impl.OK)},
		{loop(), []int64{400000, 500000}, []int64{3, -1}, []int64{0, 0}, 0, listed([]int64{149, 149}, impl.OK)},
		{loop(), equal, []int64{7, -7}, []int64{0, 0}, 0, listed([]int64{0, 0}, impl.OK)},
		{loop(), equal, []int64{0, 0}, []int64{0, 0}, 0, listed([]int64{0, 0}, impl.OK)},
		// The flow of one airway is enough for a slope, be it small; flows need no balance, and other meshes no flow.
		{loop(), equal, []int64{100, 0}, []int64{0, 5}, 0, listed([]int64{10000, 10005}, impl.OK)},
		{loop(), equal, []int64{1, 0}, []int64{0, 100}, 0, listed([]int64{10000, 10100}, impl.OK)},
		{loop(), most, []int64{1, 0}, []int64{0, 10}, 0, listed([]int64{500, 510}, impl.OK)},
		{fork(), []int64{5000, 5000, 5000}, []int64{0, 0, 100}, []int64{0, 700, 0}, 1, listed([]int64{10000, 700, 10000}, impl.OK)},
		{fork(), []int64{5000, 5000, 5000}, []int64{0, 0, 99}, []int64{0, 700, 0}, 1, listed([]int64{9949, 700, 9949}, impl.OK)},
		// Two, one and three pascals with 40000000000: a half is rounded away from 0.
		{loop(), most, []int64{19998, 0}, []int64{10000, 10000}, 0, listed([]int64{9999, 9999}, impl.OK)},
		{loop(), most, []int64{20002, 0}, []int64{10000, 10000}, 0, listed([]int64{10001, 10001}, impl.OK)},
		{loop(), most, []int64{19999, 0}, []int64{10000, 10000}, 0, listed([]int64{10000, 10000}, impl.OK)},
		{loop(), most, []int64{20003, 0}, []int64{10000, 10000}, 0, listed([]int64{10001, 10001}, impl.OK)},
		{loop(), most, []int64{-20002, 0}, []int64{-10000, -10000}, 0, listed([]int64{-10001, -10001}, impl.OK)},
		// The mesh is 3 -2 -1: 100 pascals more in the first airway drive air against it.
		{against, []int64{5000, 5000, 10000}, []int64{50, 0, 0}, []int64{0, 0, 0}, 0, listed([]int64{5000, 5000, -5000}, impl.OK)},
		{against, []int64{5000, 5000, 10000}, []int64{0, 0, 50}, []int64{0, 0, 0}, 0, listed([]int64{-5000, -5000, 5000}, impl.OK)},
		// The greatest step leads just to the greatest flow, and no further.
		{loop(), equal, []int64{100000, 0}, []int64{90000, 90000}, 0, listed([]int64{100000, 100000}, impl.OK)},
		{loop(), equal, []int64{100000, 0}, []int64{90000, 90001}, 0, nothing(impl.ErrState)},
		{loop(), equal, []int64{100000, 0}, []int64{90001, 90000}, 0, nothing(impl.ErrState)},
		{loop(), equal, []int64{0, -100000}, []int64{-90000, -90000}, 0, listed([]int64{-100000, -100000}, impl.OK)},
		{loop(), equal, []int64{0, -100000}, []int64{-90001, -90000}, 0, nothing(impl.ErrState)},
		{loop(), equal, []int64{100000, 0}, []int64{95000, 95000}, 0, nothing(impl.ErrState)},
	}
	for _, c := range cases {
		expectOutcome(t, listed(impl.CorrectMesh(c.m, c.resistances, c.pushes, c.flows, c.mesh)), c.want, "CorrectMesh", c)
	}
}

// TestSolvedFlowsAreBalanced covers P8 for SolveFlows, and compares all results with the model.
func TestSolvedFlowsAreBalanced(t *testing.T) {
	codes := map[int64]int{}
	for _, s := range randomSettings() {
		for _, tolerance := range []int64{s.tolerance, 0, 3, 100} {
			s.tolerance = tolerance
			got := solved(impl.SolveFlows(s.m, s.resistances, s.fans, s.draught, s.start, s.tolerance, s.rounds))
			expectOutcome(t, got, wantSolution(s), "SolveFlows", s)
			codes[got.code]++
			if got.code != impl.OK {
				continue
			}
			pushes, one := impl.PushesOf(s.m, s.fans, s.draught, got.list)
			if !impl.IsBalanced(s.m, got.list) || !wantBalanced(s.m, got.list) || one != impl.OK {
				t.Errorf("SolveFlows of %v returns %v", s, got)
			}
			meshes, _ := impl.MeshesOf(s.m)
			worst := int64(0)
			for _, mesh := range meshes {
				e := wantError(s.resistances, pushes, got.list, mesh)
				worst = max(worst, e, -e)
			}
			if worst != got.number || worst > tolerance {
				t.Errorf("SolveFlows of %v returns %v, but the greatest error is %d", s, got, worst)
			}
			if errors, code := impl.MeshErrors(s.m, s.resistances, pushes, got.list); code == impl.OK {
				for _, e := range errors {
					if e > worst || e < -worst {
						t.Errorf("SolveFlows of %v returns %v with the errors %v", s, got, errors)
					}
				}
			}
		}
	}
	if codes[impl.OK] < 1000 || codes[impl.ErrFull] < 100 || codes[impl.ErrState] < 50 {
		t.Errorf("the codes are %v", codes)
	}
}

func TestSolutionsByHand(t *testing.T) {
	equal, three, most := []int64{5000, 5000}, []int64{5000, 5000, 5000}, []int64{1000000, 1000000}
	push, still, far := []int64{100, 0}, []int64{0, 0}, []int64{100000, 0}
	near, fan := []int64{5000, 5000}, []impl.Fan{mainFan()}
	cases := []struct {
		m                 impl.Mine
		resistances       []int64
		fans              []impl.Fan
		draught, start    []int64
		tolerance, rounds int64
		want              outcome
	}{
		// The document's example: one round leads to it.
		{loop(), equal, nil, push, still, 5, 10, solved([]int64{10000, 10000}, 0, impl.OK)},
		{loop(), equal, nil, push, still, 0, 1, solved([]int64{10000, 10000}, 0, impl.OK)},
		{loop(), equal, nil, push, still, 5, 0, solved(nil, 100, impl.ErrFull)},
		{loop(), equal, nil, push, still, 99, 0, solved(nil, 100, impl.ErrFull)},
		{loop(), equal, nil, push, still, 100, 0, solved(still, 100, impl.OK)},
		{loop(), equal, nil, push, still, 100, 500, solved(still, 100, impl.OK)},
		{loop(), equal, nil, push, []int64{10000, 10000}, 0, 0, solved([]int64{10000, 10000}, 0, impl.OK)},
		// Negative errors count as much as positive ones.
		{loop(), equal, nil, []int64{-100, 0}, still, 99, 0, solved(nil, 100, impl.ErrFull)},
		{loop(), equal, nil, []int64{-100, 0}, still, 100, 0, solved(still, 100, impl.OK)},
		{loop(), equal, nil, []int64{-100, 0}, still, 0, 1, solved([]int64{-10000, -10000}, 0, impl.OK)},
		// The errors are -74, 54 and 4.
		{loop(), equal, nil, push, near, 74, 0, solved(near, 74, impl.OK)},
		{loop(), equal, nil, push, near, 73, 0, solved(nil, 74, impl.ErrFull)},
		{loop(), equal, nil, push, near, 73, 1, solved([]int64{12400, 12400}, 54, impl.OK)},
		{loop(), equal, nil, push, near, 54, 500, solved([]int64{12400, 12400}, 54, impl.OK)},
		{loop(), equal, nil, push, near, 53, 1, solved(nil, 54, impl.ErrFull)},
		{loop(), equal, nil, push, near, 53, 2, solved([]int64{10223, 10223}, 4, impl.OK)},
		{loop(), equal, nil, push, near, 4, 2, solved([]int64{10223, 10223}, 4, impl.OK)},
		{loop(), equal, nil, push, near, 3, 2, solved(nil, 4, impl.ErrFull)},
		// The second mesh of a round begins with the flows that the first one left.
		{fork(), three, nil, []int64{100, 0, 0}, []int64{0, 0, 0}, 63, 1, solved([]int64{15000, 10000, 5000}, 63, impl.OK)},
		{fork(), three, nil, []int64{100, 0, 0}, []int64{0, 0, 0}, 62, 1, solved(nil, 63, impl.ErrFull)},
		// And with the pressure of the fan for them: it has 1000 at first, then 0, and at last 500.
		{fork(), []int64{50000, 50000, 50000}, fan, []int64{0, 0, 0}, []int64{0, 0, 0}, 500, 1, solved([]int64{5000, 10000, -5000}, 500, impl.OK)},
		{fork(), []int64{50000, 50000, 50000}, fan, []int64{0, 0, 0}, []int64{0, 0, 0}, 499, 1, solved(nil, 500, impl.ErrFull)},
		{fork(), []int64{50000, 50000, 50000}, fan, []int64{0, 0, 0}, []int64{0, 0, 0}, 499, 0, solved(nil, 1000, impl.ErrFull)},
		// A fan against its flow, and one that is too weak for its draught.
		{loop(), equal, []impl.Fan{inAirway(levelFan("a", 40), 1)}, []int64{60, 0}, still, 0, 1, solved([]int64{10000, 10000}, 0, impl.OK)},
		{loop(), equal, []impl.Fan{inAirway(levelFan("a", 40), 1)}, []int64{-140, 0}, still, 0, 1, solved([]int64{-10000, -10000}, 0, impl.OK)},
		{loop(), equal, []impl.Fan{levelFan("a", 40), levelFan("b", 10), inAirway(levelFan("c", 50), 1)}, still, still, 0, 1, solved([]int64{10000, 10000}, 0, impl.OK)},
		// Draught and fan together may push more than a draught does alone.
		{loop(), most, []impl.Fan{levelFan("a", 10000)}, far, still, 100000, 0, solved(nil, 110000, impl.ErrFull)},
		{loop(), most, []impl.Fan{levelFan("a", 10000)}, far, still, 100000, 1, solved([]int64{10000, 10000}, 90000, impl.OK)},
		// Each round adds the greatest step, and the eleventh one leads too far.
		{loop(), []int64{1, 1}, nil, far, still, 0, 9, solved(nil, 99998, impl.ErrFull)},
		{loop(), []int64{1, 1}, nil, far, still, 0, 10, solved(nil, 99998, impl.ErrFull)},
		{loop(), []int64{1, 1}, nil, far, still, 99998, 7, solved(nil, 100000, impl.ErrFull)},
		{loop(), []int64{1, 1}, nil, far, still, 99998, 8, solved([]int64{80000, 80000}, 99998, impl.OK)},
		{loop(), []int64{1, 1}, nil, far, still, 99998, 500, solved([]int64{80000, 80000}, 99998, impl.OK)},
		{loop(), []int64{1, 1}, nil, far, still, 99997, 11, nothing(impl.ErrState)},
		{loop(), []int64{1, 1}, nil, far, still, 99997, 500, nothing(impl.ErrState)},
		{loop(), []int64{1, 1}, nil, []int64{-100000, 0}, still, 99997, 500, nothing(impl.ErrState)},
		// A step within a round may lead too far, though the next one would lead back.
		{fork(), three, nil, []int64{0, 100000, -100000}, []int64{95000, 95000, 0}, 0, 1, nothing(impl.ErrState)},
		// Without meshes there is no error, and without balance no round.
		{line(), slices.Repeat([]int64{7}, 15), nil, slices.Repeat([]int64{100000}, 15), make([]int64, 15), 0, 0, solved(make([]int64, 15), 0, impl.OK)},
		{impl.Mine{Junctions: 1}, nil, nil, nil, nil, 0, 0, nothing(impl.OK)},
		{line(), slices.Repeat([]int64{7}, 15), nil, make([]int64, 15), slices.Repeat([]int64{1}, 15), 0, 0, nothing(impl.ErrState)},
		{loop(), equal, nil, push, []int64{1, 0}, 100000, 0, nothing(impl.ErrState)},
		{loop(), equal, nil, push, []int64{1, -1}, 100000, 0, nothing(impl.ErrState)},
		// The step of a small error may be 0, and then no round helps.
		{loop(), most, nil, []int64{19999, 0}, []int64{10000, 10000}, 0, 500, solved(nil, 1, impl.ErrFull)},
	}
	for _, c := range cases {
		got := solved(impl.SolveFlows(c.m, c.resistances, c.fans, c.draught, c.start, c.tolerance, c.rounds))
		expectOutcome(t, got, c.want, "SolveFlows", c)
	}
}

// flowResults returns what all functions of chapter 7 return for a setting.
func flowResults(s setting) []any {
	all := []any{impl.IsBalanced(s.m, s.flows), impl.IsBalanced(s.m, s.start)}
	outcomes := outcomesOf(s)
	for _, name := range []string{"ResistancesOf", "ImbalanceAt", "FlowsOfMeshes", "PushesOf", "MeshErrors", "CorrectMesh", "SolveFlows", "LossPower", "StillAirways"} {
		all = append(all, outcomes[name])
	}
	return all
}

// wildSettings returns settings with arguments far beyond what any of them may be.
func wildSettings() []setting {
	wild := impl.Mine{Junctions: math.MaxInt64, Airways: make([]impl.Airway, 1000)}
	long := slices.Repeat([]int64{math.MinInt64, math.MaxInt64}, 5000)
	list := []setting{{}, {m: wild, fans: make([]impl.Fan, 1000), resistances: long, draught: long, pushes: long, flows: long, start: long, amounts: long}}
	for _, n := range edgeNumbers() {
		for _, m := range []impl.Mine{loop(), grid(), {Junctions: n}, wild} {
			numbers := slices.Repeat([]int64{n}, len(m.Airways))
			list = append(list, setting{
				m: m, fans: []impl.Fan{inAirway(fanOf("f", n, -n, -n, n), n)}, resistances: numbers, draught: numbers, pushes: numbers, flows: numbers, start: numbers,
				amounts: numbers, junction: n, mesh: n, tolerance: n, rounds: n, least: n,
			})
			ones := slices.Repeat([]int64{1}, len(m.Airways))
			list = append(list, setting{m: m, resistances: ones, draught: ones, pushes: ones, flows: ones, start: ones, amounts: ones[:len(ones)/2], junction: n, mesh: n, tolerance: n, rounds: n, least: n})
		}
	}
	return list
}

func TestFlowsReturnTheSameForAllArguments(t *testing.T) {
	settings := append(append(randomSettings(), wildSettings()...), goodSettings()...)
	for _, good := range goodSettings() {
		settings = append(settings, faulty(good, faultsOf(good))...)
	}
	for _, s := range settings {
		twice(t, "the functions of flows", func() []any { return flowResults(s) })
	}
	empty := []int64{}
	for _, m := range []impl.Mine{{Junctions: 1}, {Junctions: 1, Airways: []impl.Airway{}}, triangle(), {}} {
		a := setting{m: m}
		b := setting{m: m, fans: []impl.Fan{}, resistances: empty, draught: empty, pushes: empty, flows: empty, start: empty, amounts: empty}
		if one, two := fmt.Sprint(flowResults(a)), fmt.Sprint(flowResults(b)); one != two {
			t.Errorf("no numbers in %v have %v as nil, and else %v", m, one, two)
		}
	}
}

// listsOf returns all lists of numbers of a setting.
func listsOf(s *setting) []*[]int64 {
	return []*[]int64{&s.resistances, &s.draught, &s.pushes, &s.flows, &s.start, &s.amounts}
}

// roomyList returns a list with room behind it, and that room with it.
func roomyList[T any](list []T, behind T) (used, whole []T) {
	whole = append(slices.Clone(list), slices.Repeat([]T{behind}, 30)...)
	return whole[:len(list)], whole
}

func TestFlowsModifyNoArgument(t *testing.T) {
	for _, s := range append(append(randomSettings(), goodSettings()...), wildSettings()...) {
		var rooms []func() string
		for _, list := range listsOf(&s) {
			used, whole := roomyList(*list, -77)
			*list = used
			rooms = append(rooms, func() string { return fmt.Sprint(whole) })
		}
		airways, allAirways := roomyList(s.m.Airways, airwayBetween(77, 1, 0))
		s.m.Airways = airways
		fans := slices.Clone(s.fans)
		for i, f := range fans {
			g, room := roomy(f)
			fans[i] = g
			rooms = append(rooms, room)
		}
		fans, allFans := roomyList(fans, levelFan("z", 5))
		s.fans = fans
		rooms = append(rooms, func() string { return fmt.Sprint(allAirways, allFans) })
		var before []string
		for _, room := range rooms {
			before = append(before, room())
		}
		flowResults(s)
		for i, room := range rooms {
			if room() != before[i] {
				t.Errorf("%v becomes %v", before[i], room())
			}
		}
	}
}

func TestFlowsReturnNewMemory(t *testing.T) {
	settings := goodSettings()
	for _, s := range randomSettings() {
		// A start with small errors is returned as it is.
		s.tolerance = 100000
		settings = append(settings, s)
	}
	for _, s := range settings {
		before, want := fmt.Sprint(s), flowResults(s)
		for _, o := range outcomesOf(s) {
			spoil(o.list, 77)
		}
		if fmt.Sprint(s) != before || !reflect.DeepEqual(flowResults(s), want) {
			t.Errorf("results for %v share memory", before)
		}
	}
}
