package tests

import (
	"fmt"
	"math"
	"math/rand"
	"reflect"
	"slices"
	"testing"

	"loop.example/g01021/impl"
)

// The declarations of chapter 9, which must keep their types.
var (
	_ func(int64) (int64, int64)                                                            = impl.WarmDensity
	_ func(int64, int64) (int64, int64)                                                     = impl.ColumnDraught
	_ func(int64, int64) (int64, int64)                                                     = impl.TemperatureFor
	_ func(m impl.Mine, levels, temperatures []int64) ([]int64, int64)                      = impl.DraughtsOf
	_ func(m impl.Mine, levels, temperatures, walk []int64) (int64, int64)                  = impl.WalkDraught
	_ func(m impl.Mine, levels, temperatures []int64) (index, value, code int64)            = impl.StrongestMesh
	_ func(m impl.Mine, temperatures, airways []int64, by int64) (list []int64, code int64) = impl.WarmAirways
	_ func(m impl.Mine, levels []int64) ([]int64, int64)                                    = impl.DepthsOf
	_ func(m impl.Mine, levels []int64) (index, value, code int64)                          = impl.SteepestOf
	_ [impl.MaxLevel - 3000]struct{}                                                        = [0]struct{}{}
	_ [impl.ColdColumn + 300]struct{}                                                       = [0]struct{}{}
	_ [impl.HotColumn - 600]struct{}                                                        = [0]struct{}{}
	_ [impl.PlainDensity - 1200]struct{}                                                    = [0]struct{}{}
)

func temperatures() []int64 { return append(around(-300, 600, 200, 211), 92, 93, 479, -15, 599) }

func rises() []int64 { return append(around(-6000, 6000), 100, -100, 500, -500, 37) }

func wantColumnDensity(temperature int64) int64 { return quotient(3531183, 2731+temperature) }

func wantColumn(rise, temperature int64) int64 {
	return quotient(981*(1200-wantColumnDensity(temperature))*rise, 100000)
}

func TestWarmDensity(t *testing.T) {
	last := int64(math.MaxInt64)
	for temperature := int64(-300); temperature <= 600; temperature++ {
		got := answerOf(impl.WarmDensity(temperature))
		expect(t, got, answer{wantColumnDensity(temperature), impl.OK}, "WarmDensity", temperature)
		if got.value > last {
			t.Errorf("air becomes heavier with the temperature %d", temperature)
		}
		last = got.value
	}
	for _, n := range temperatures() {
		if !from(-300, 600, n) {
			expect(t, answerOf(impl.WarmDensity(n)), failed(impl.ErrRange), "WarmDensity", n)
		}
	}
	for n, want := range map[int64]int64{-300: 1453, -15: 1300, 0: 1293, 200: 1205, 210: 1201, 211: 1200, 212: 1200, 213: 1199, 479: 1100, 600: 1060} {
		expect(t, answerOf(impl.WarmDensity(n)), answer{want, impl.OK}, "WarmDensity", n)
	}
}

func TestColumnDraught(t *testing.T) {
	for _, rise := range rises() {
		for _, temperature := range temperatures() {
			want := failed(impl.ErrRange)
			if from(-6000, 6000, rise) && from(-300, 600, temperature) {
				want = answer{wantColumn(rise, temperature), impl.OK}
			}
			got := answerOf(impl.ColumnDraught(rise, temperature))
			expect(t, got, want, "ColumnDraught", rise, temperature)
			// The same column, seen downwards, has the opposite sign.
			expect(t, answerOf(impl.ColumnDraught(-rise, temperature)), answer{-want.value, want.code}, "ColumnDraught", -rise, temperature)
		}
	}
	for _, c := range []struct{ rise, temperature, want int64 }{
		// The document's example.
		{100, 0, -91},
		{-100, 0, 91},
		{100, 200, -5},
		{100, 600, 137},
		{-100, 600, -137},
		{6000, -300, -14892},
		{-6000, -300, 14892},
		{6000, 600, 8240},
		{-6000, 600, -8240},
		{0, -300, 0},
		{0, 600, 0},
		{6000, 211, 0},
		{-6000, 212, 0},
		{6000, 213, 59},
		{6000, 210, -59},
		// 490.5 is rounded away from 0.
		{500, 479, 491},
		{-500, 479, -491},
		{500, -15, -491},
		{-500, -15, 491},
		// 0.49 and 0.50031.
		{1, 93, 0},
		{1, 92, -1},
		{-1, 93, 0},
		{-1, 92, 1},
	} {
		expect(t, answerOf(impl.ColumnDraught(c.rise, c.temperature)), answer{c.want, impl.OK}, "ColumnDraught", c.rise, c.temperature)
	}
}

func wantTemperature(rise, draught int64) answer {
	for temperature := int64(-300); temperature <= 600; temperature++ {
		if wantColumn(rise, temperature) >= draught {
			return answer{temperature, impl.OK}
		}
	}
	return failed(impl.ErrNotFound)
}

func TestTemperatureFor(t *testing.T) {
	codes := map[int64]int{}
	for _, rise := range rises() {
		draughts := append(around(-100000, 100000), 8240, 8241, -14892, -14893, 50, -50)
		if from(-6000, 6000, rise) {
			for _, temperature := range []int64{-300, -15, 0, 92, 200, 600} {
				n := wantColumn(rise, temperature)
				draughts = append(draughts, n-1, n, n+1)
			}
		}
		for _, draught := range draughts {
			want := failed(impl.ErrRange)
			if from(-6000, 6000, rise) && from(-100000, 100000, draught) {
				want = wantTemperature(rise, draught)
			}
			codes[want.code]++
			expect(t, answerOf(impl.TemperatureFor(rise, draught)), want, "TemperatureFor", rise, draught)
		}
	}
	if codes[impl.OK] < 50 || codes[impl.ErrNotFound] < 50 {
		t.Errorf("the codes are %v", codes)
	}
	for _, c := range []struct {
		rise, draught int64
		want          answer
	}{
		{100, 0, answer{211, impl.OK}},
		{100, 50, answer{341, impl.OK}},
		{100, -1000, answer{-300, impl.OK}},
		{100, 137, answer{599, impl.OK}},
		{100, 138, failed(impl.ErrNotFound)},
		{1, 0, answer{93, impl.OK}},
		{6000, 8240, answer{599, impl.OK}},
		{6000, 8241, failed(impl.ErrNotFound)},
		{6000, -100000, answer{-300, impl.OK}},
		{6000, 100000, failed(impl.ErrNotFound)},
		// A column that falls has its greatest draught when it is coldest.
		{-100, 0, answer{-300, impl.OK}},
		{-100, 248, answer{-300, impl.OK}},
		{-100, 249, failed(impl.ErrNotFound)},
		{-6000, 14892, answer{-300, impl.OK}},
		{-6000, 14893, failed(impl.ErrNotFound)},
		{-6000, -100000, answer{-300, impl.OK}},
		{0, 0, answer{-300, impl.OK}},
		{0, -1, answer{-300, impl.OK}},
		{0, 1, failed(impl.ErrNotFound)},
		// Numbers that are not as stated come before a draught that there is not.
		{6001, 100000, failed(impl.ErrRange)},
		{-6001, -100000, failed(impl.ErrRange)},
		{0, 100001, failed(impl.ErrRange)},
		{6000, -100001, failed(impl.ErrRange)},
	} {
		expect(t, answerOf(impl.TemperatureFor(c.rise, c.draught)), c.want, "TemperatureFor", c.rise, c.draught)
	}
}

// climate is a mine with all other arguments of the functions of chapter 9.
type climate struct {
	m                                   impl.Mine
	levels, temperatures, walk, airways []int64
	by                                  int64
}

// paired has two numbers, or none where both are 0 and there is an error.
func paired(a, b, code int64) outcome {
	if code != impl.OK && a == 0 && b == 0 {
		return nothing(code)
	}
	return listed([]int64{a, b}, code)
}

// draughtOutcomes returns what each function of chapter 9 with a mine returns.
func draughtOutcomes(c climate) map[string]outcome {
	return map[string]outcome{
		"DraughtsOf":    listed(impl.DraughtsOf(c.m, c.levels, c.temperatures)),
		"WalkDraught":   counted(impl.WalkDraught(c.m, c.levels, c.temperatures, c.walk)),
		"StrongestMesh": paired(impl.StrongestMesh(c.m, c.levels, c.temperatures)),
		"WarmAirways":   listed(impl.WarmAirways(c.m, c.temperatures, c.airways, c.by)),
		"DepthsOf":      listed(impl.DepthsOf(c.m, c.levels)),
		"SteepestOf":    paired(impl.SteepestOf(c.m, c.levels)),
	}
}

// goodClimates returns climates for which all functions return OK.
func goodClimates() []climate {
	return []climate{
		{m: triangle(), levels: []int64{3000, -3000, 7}, temperatures: []int64{-300, 600, 0}, walk: []int64{-3, -2, -1}, airways: []int64{0, 2}, by: 5},
		{m: fork(), levels: []int64{0, 100}, temperatures: []int64{1, 2, 3}, walk: []int64{1, 2, 1, -1}, airways: []int64{1}, by: -7},
	}
}

func wrongIndices(count int64) [][]int64 {
	return [][]int64{
		{-1}, {count}, {math.MinInt64}, {math.MaxInt64}, {0, count}, {-1, 0}, {0, 0}, {1, 1}, {1, 0}, {0, 1, 1}, {0, 1, 0}, {math.MinInt64, 0}, {0, math.MaxInt64},
		slices.Repeat([]int64{0}, 1000),
	}
}

// wrongWalks returns lists that are no walks of triangle and fork.
func wrongWalks(count int64) [][]int64 {
	return [][]int64{
		{0}, {count + 1}, {-count - 1}, {math.MinInt64}, {math.MaxInt64}, {math.MinInt64 + 1}, {1, 0}, {0, 1}, {1, -1, 0}, {1, 1}, {-1, -1}, {2, 2}, {1, -2}, {-1, 2},
		{1, 2, count + 1}, {-count - 1, 1}, {1, math.MinInt64}, {1, -1, 1, 1}, {1, 2, 2}, append(slices.Repeat([]int64{1, -1}, 32), 1), slices.Repeat([]int64{1, -1}, 500),
	}
}

func faultsOfClimate(c climate) []fault[climate] {
	count := int64(len(c.m.Airways))
	faults := []fault[climate]{
		faultOfMine("DraughtsOf WalkDraught StrongestMesh WarmAirways DepthsOf SteepestOf", func(c *climate, m impl.Mine) { c.m = m }),
		faultOfNumber("by", "WarmAirways", -900, 900, func(c *climate, n int64) { c.by = n }),
		faultOfLists("levels", impl.ErrOrder, "DraughtsOf WalkDraught StrongestMesh DepthsOf SteepestOf", wrongLists(c.levels, -3000, 3000), func(c *climate, list []int64) { c.levels = list }),
		faultOfLists("temperatures", impl.ErrOrder, "DraughtsOf WalkDraught StrongestMesh WarmAirways", wrongLists(c.temperatures, -300, 600), func(c *climate, list []int64) { c.temperatures = list }),
		faultOfLists("airways", impl.ErrOrder, "WarmAirways", wrongIndices(count), func(c *climate, list []int64) { c.airways = list }),
		faultOfLists("walk", impl.ErrState, "WalkDraught", wrongWalks(count), func(c *climate, list []int64) { c.walk = list }),
	}
	tooFar := fault[climate]{argument: "by", code: impl.ErrState, in: "WarmAirways"}
	for _, by := range []int64{-900, 900} {
		tooFar.changes = append(tooFar.changes, func(c *climate) { c.by = by })
	}
	return append(faults, tooFar)
}

func TestErrorsOfDraughts(t *testing.T) {
	for _, good := range goodClimates() {
		expectErrors(t, good, draughtOutcomes, faultsOfClimate(good))
	}
}

// randomWalk returns a walk of a mine, which need not come back, and may run through an airway again.
func randomWalk(random *rand.Rand, m impl.Mine, most int) []int64 {
	here := random.Int63n(m.Junctions)
	var walk []int64
	for range random.Intn(most + 1) {
		var next []int64
		for k, a := range m.Airways {
			if a.From == here {
				next = append(next, int64(k)+1)
			}
			if a.To == here {
				next = append(next, -int64(k)-1)
			}
		}
		if len(next) == 0 {
			break
		}
		step := next[random.Intn(len(next))]
		walk = append(walk, step)
		here, _ = walked(m, []int64{step}, here)
	}
	return walk
}

func randomClimates() []climate {
	random := rand.New(rand.NewSource(9))
	var list []climate
	for _, m := range validMines() {
		for range 2 {
			c := climate{
				m: m, levels: anyNumbers(random, int(m.Junctions), -3000, 3000), temperatures: anyNumbers(random, len(m.Airways), -300, 600),
				walk: randomWalk(random, m, 64), by: anyNumbers(random, 1, -900, 900)[0],
			}
			for k := range m.Airways {
				if random.Intn(3) == 0 {
					c.airways = append(c.airways, int64(k))
				}
			}
			list = append(list, c)
		}
	}
	return list
}

func wantDraughts(c climate) []int64 {
	var list []int64
	for k, a := range c.m.Airways {
		list = append(list, wantColumn(c.levels[a.To]-c.levels[a.From], c.temperatures[k]))
	}
	return list
}

// wantAlong returns the sum of draughts along a walk.
func wantAlong(draughts, walk []int64) int64 {
	sum := int64(0)
	for _, step := range walk {
		if step > 0 {
			sum += draughts[step-1]
		} else {
			sum -= draughts[-step-1]
		}
	}
	return sum
}

func TestDraughtsOf(t *testing.T) {
	for _, c := range randomClimates() {
		expectOutcome(t, listed(impl.DraughtsOf(c.m, c.levels, c.temperatures)), listed(wantDraughts(c), impl.OK), "DraughtsOf", c)
	}
	for _, c := range []struct {
		m                          impl.Mine
		levels, temperatures, want []int64
	}{
		// Cold air falls: downwards from 0 to 1 it pushes, and upwards from 1 to 0 it holds back.
		{loop(), []int64{0, -100}, []int64{0, 0}, []int64{91, -91}},
		{loop(), []int64{0, 100}, []int64{0, 0}, []int64{-91, 91}},
		{loop(), []int64{0, -100}, []int64{600, 600}, []int64{-137, 137}},
		{loop(), []int64{0, -100}, []int64{0, 200}, []int64{91, -5}},
		{loop(), []int64{2950, 2850}, []int64{0, 200}, []int64{91, -5}},
		{loop(), []int64{7, 7}, []int64{-300, 600}, []int64{0, 0}},
		{loop(), []int64{3000, -3000}, []int64{-300, 600}, []int64{14892, 8240}},
		{triangle(), []int64{0, 100, 200}, []int64{0, 211, 600}, []int64{-91, 0, -275}},
		{impl.Mine{Junctions: 1}, []int64{5}, nil, nil},
		{impl.Mine{Junctions: 2}, []int64{5, -3000}, nil, nil},
	} {
		expectOutcome(t, listed(impl.DraughtsOf(c.m, c.levels, c.temperatures)), listed(c.want, impl.OK), "DraughtsOf", c)
	}
}

func TestWalkDraught(t *testing.T) {
	steps := 0
	for _, c := range randomClimates() {
		draughts := wantDraughts(c)
		meshes, _ := impl.MeshesOf(c.m)
		for _, walk := range append(meshes, c.walk, nil, []int64{}) {
			steps += len(walk)
			want := answer{wantAlong(draughts, walk), impl.OK}
			expect(t, answerOf(impl.WalkDraught(c.m, c.levels, c.temperatures, walk)), want, "WalkDraught", c, walk)
			// The same way back has the opposite sign.
			back := slices.Clone(walk)
			slices.Reverse(back)
			for i := range back {
				back[i] = -back[i]
			}
			expect(t, answerOf(impl.WalkDraught(c.m, c.levels, c.temperatures, back)), answer{-want.value, impl.OK}, "WalkDraught", c, back)
		}
	}
	if steps < 10000 {
		t.Errorf("all walks have only %d steps", steps)
	}
}

func TestWalksOfAMine(t *testing.T) {
	random := rand.New(rand.NewSource(99))
	codes := map[int64]int{}
	for _, m := range []impl.Mine{triangle(), fork(), loop(), line(), {Junctions: 3}, mineOf(4, [2]int64{3, 2}, [2]int64{1, 0}, [2]int64{2, 3})} {
		count := int64(len(m.Airways))
		levels, still := make([]int64, m.Junctions), make([]int64, count)
		for range 4000 {
			walk := make([]int64, random.Intn(5))
			for i := range walk {
				walk[i] = random.Int63n(2*count+3) - count - 1
			}
			want := failed(impl.ErrState)
			for j := range m.Junctions {
				if _, ok := walked(m, walk, j); ok {
					want.code = impl.OK
				}
			}
			codes[want.code]++
			expect(t, answerOf(impl.WalkDraught(m, levels, still, walk)), want, "WalkDraught", m, walk)
		}
	}
	if codes[impl.OK] < 1000 || codes[impl.ErrState] < 1000 {
		t.Errorf("the codes are %v", codes)
	}
}

func TestWalkDraughtByHand(t *testing.T) {
	levels, warm := []int64{0, -100}, []int64{0, 200}
	to64, to65 := slices.Repeat([]int64{1, 2}, 32), append(slices.Repeat([]int64{1, 2}, 32), 1)
	for _, c := range []struct {
		walk []int64
		want answer
	}{
		{nil, answer{0, impl.OK}},
		{[]int64{1}, answer{91, impl.OK}},
		{[]int64{-1}, answer{-91, impl.OK}},
		{[]int64{2}, answer{-5, impl.OK}},
		{[]int64{-2}, answer{5, impl.OK}},
		{[]int64{1, 2}, answer{86, impl.OK}},
		{[]int64{2, 1}, answer{86, impl.OK}},
		{[]int64{-1, -2}, answer{-86, impl.OK}},
		{[]int64{1, -1}, answer{0, impl.OK}},
		{[]int64{-2, 2, 1, 2, 1}, answer{177, impl.OK}},
		{[]int64{-2, 2, 2, 1}, failed(impl.ErrState)},
		{[]int64{-2, 2, -2, 2}, answer{0, impl.OK}},
		{[]int64{1, 2, 1}, answer{177, impl.OK}},
		{to64, answer{32 * 86, impl.OK}},
		{to65, failed(impl.ErrState)},
		{to65[1:], answer{32 * 86, impl.OK}},
		{[]int64{1, 1}, failed(impl.ErrState)},
		{[]int64{1, -2}, failed(impl.ErrState)},
		{[]int64{3}, failed(impl.ErrState)},
		{[]int64{-3}, failed(impl.ErrState)},
		{[]int64{0}, failed(impl.ErrState)},
		{[]int64{math.MinInt64}, failed(impl.ErrState)},
	} {
		expect(t, answerOf(impl.WalkDraught(loop(), levels, warm, c.walk)), c.want, "WalkDraught", c.walk)
	}
	expect(t, answerOf(impl.WalkDraught(impl.Mine{Junctions: 1}, []int64{7}, nil, nil)), answer{0, impl.OK}, "WalkDraught", "no airways")
	for _, step := range []int64{0, 1, -1} {
		expect(t, answerOf(impl.WalkDraught(impl.Mine{Junctions: 1}, []int64{7}, nil, []int64{step})), failed(impl.ErrState), "WalkDraught", "no airways", step)
	}
	// Levels and temperatures come before the walk.
	expect(t, answerOf(impl.WalkDraught(loop(), []int64{0, 3001}, warm, []int64{0})), failed(impl.ErrOrder), "WalkDraught", "a wrong level and no walk")
	expect(t, answerOf(impl.WalkDraught(loop(), levels, warm[1:], to65)), failed(impl.ErrOrder), "WalkDraught", "too few temperatures and a long walk")
}

// TestLoopsOfOneTemperatureHaveNoDraught covers P10: exact draughts of a loop add up to 0, and each is rounded by at most a half.
func TestLoopsOfOneTemperatureHaveNoDraught(t *testing.T) {
	random := rand.New(rand.NewSource(10))
	rounded, loops := 0, 0
	for _, c := range randomClimates() {
		one := []int64{-300, 600, 0, 211, random.Int63n(901) - 300}[random.Intn(5)]
		c.temperatures = slices.Repeat([]int64{one}, len(c.m.Airways))
		walks, _ := impl.MeshesOf(c.m)
		meshes := len(walks)
		for range 5 {
			walk := randomWalk(random, c.m, 40)
			if len(walk) > 0 {
				start := c.m.Airways[max(walk[0], -walk[0])-1].From
				if walk[0] < 0 {
					start = c.m.Airways[-walk[0]-1].To
				}
				end, _ := walked(c.m, walk, start)
				back, _ := impl.PathOf(c.m, end, start)
				walks = append(walks, append(walk, back...))
			}
		}
		longest := 0
		for i, walk := range walks {
			got := answerOf(impl.WalkDraught(c.m, c.levels, c.temperatures, walk))
			if got.code != impl.OK || 2*max(got.value, -got.value) > int64(len(walk)) || one == 211 && got.value != 0 {
				t.Errorf("with the temperature %d everywhere %v has the draught %v in %v with the levels %v", one, walk, got, c.m, c.levels)
			}
			if got.value != 0 {
				rounded++
			}
			if i < meshes {
				longest = max(longest, len(walk))
			}
			loops++
		}
		if _, most, code := impl.StrongestMesh(c.m, c.levels, c.temperatures); code == impl.OK && 2*most > int64(longest) {
			t.Errorf("with the temperature %d everywhere a mesh of %v with the levels %v has the draught %d", one, c.m, c.levels, most)
		}
	}
	if loops < 3000 || rounded < 100 {
		t.Errorf("%d loops, %d of them with a draught", loops, rounded)
	}
}

func TestStrongestMesh(t *testing.T) {
	negative := 0
	for _, c := range randomClimates() {
		meshes, _ := impl.MeshesOf(c.m)
		want := nothing(impl.ErrNotFound)
		for i, mesh := range meshes {
			sum := wantAlong(wantDraughts(c), mesh)
			if size := max(sum, -sum); i == 0 || size > want.list[1] {
				want = listed([]int64{int64(i), size}, impl.OK)
				if sum < 0 {
					negative++
				}
			}
		}
		expectOutcome(t, paired(impl.StrongestMesh(c.m, c.levels, c.temperatures)), want, "StrongestMesh", c)
	}
	if negative < 100 {
		t.Errorf("only %d sums are negative", negative)
	}
}

func TestStrongestMeshByHand(t *testing.T) {
	levels := []int64{0, -100}
	against := mineOf(3, [2]int64{0, 1}, [2]int64{1, 2}, [2]int64{0, 2})
	for _, c := range []struct {
		m                    impl.Mine
		levels, temperatures []int64
		want                 outcome
	}{
		{loop(), levels, []int64{0, 200}, listed([]int64{0, 86}, impl.OK)},
		// The sum is -137 - 91, and its absolute value counts.
		{loop(), levels, []int64{600, 0}, listed([]int64{0, 228}, impl.OK)},
		{loop(), levels, []int64{0, 0}, listed([]int64{0, 0}, impl.OK)},
		// The first airway has no draught, and 5 and -5 are as much.
		{fork(), levels, []int64{211, 200, 224}, listed([]int64{0, 5}, impl.OK)},
		{fork(), levels, []int64{211, 224, 200}, listed([]int64{0, 5}, impl.OK)},
		{fork(), levels, []int64{211, 200, 227}, listed([]int64{1, 6}, impl.OK)},
		{fork(), levels, []int64{211, 224, 197}, listed([]int64{1, 6}, impl.OK)},
		{fork(), levels, []int64{211, 211, 211}, listed([]int64{0, 0}, impl.OK)},
		// The mesh is 3 -2 -1: the draughts of the first two count with the opposite sign.
		{against, []int64{0, 100, 200}, []int64{0, 211, 600}, listed([]int64{0, 275 + 91}, impl.OK)},
		{against, []int64{0, 100, 200}, []int64{0, 0, 0}, listed([]int64{0, 0}, impl.OK)},
		{line(), make([]int64, 16), make([]int64, 15), nothing(impl.ErrNotFound)},
		{impl.Mine{Junctions: 1}, []int64{0}, nil, nothing(impl.ErrNotFound)},
		// Lists come before the meshes that there are not.
		{impl.Mine{Junctions: 1}, []int64{3001}, nil, nothing(impl.ErrOrder)},
		{impl.Mine{Junctions: 1}, nil, nil, nothing(impl.ErrOrder)},
		{impl.Mine{Junctions: 1}, []int64{0}, []int64{0}, nothing(impl.ErrOrder)},
		{impl.Mine{}, nil, nil, nothing(impl.ErrInvalid)},
	} {
		expectOutcome(t, paired(impl.StrongestMesh(c.m, c.levels, c.temperatures)), c.want, "StrongestMesh", c)
	}
}

func TestWarmAirways(t *testing.T) {
	codes := map[int64]int{}
	for _, c := range randomClimates() {
		for _, by := range []int64{c.by, 0, 1, -1, 900, -900, c.by / 10} {
			want := listed(slices.Clone(c.temperatures), impl.OK)
			for _, k := range c.airways {
				want.list[k] += by
			}
			if !from(-300, 600, want.list...) {
				want = nothing(impl.ErrState)
			}
			codes[want.code]++
			expectOutcome(t, listed(impl.WarmAirways(c.m, c.temperatures, c.airways, by)), want, "WarmAirways", c, by)
		}
	}
	if codes[impl.OK] < 1000 || codes[impl.ErrState] < 1000 {
		t.Errorf("the codes are %v", codes)
	}
	for _, c := range []struct {
		temperatures, airways []int64
		by                    int64
		want                  outcome
	}{
		{[]int64{0, 200}, []int64{1}, 30, listed([]int64{0, 230}, impl.OK)},
		{[]int64{0, 200}, []int64{0, 1}, -30, listed([]int64{-30, 170}, impl.OK)},
		{[]int64{0, 200}, nil, 900, listed([]int64{0, 200}, impl.OK)},
		{[]int64{0, 200}, nil, 901, nothing(impl.ErrRange)},
		{[]int64{0, 200}, []int64{1}, 400, listed([]int64{0, 600}, impl.OK)},
		{[]int64{0, 200}, []int64{1}, 401, nothing(impl.ErrState)},
		{[]int64{0, 200}, []int64{0}, -300, listed([]int64{-300, 200}, impl.OK)},
		{[]int64{0, 200}, []int64{0}, -301, nothing(impl.ErrState)},
		{[]int64{0, 200}, []int64{0, 1}, 401, nothing(impl.ErrState)},
		{[]int64{-300, 600}, []int64{0}, 900, listed([]int64{600, 600}, impl.OK)},
		{[]int64{-300, 600}, []int64{1}, -900, listed([]int64{-300, -300}, impl.OK)},
		{[]int64{-299, 600}, []int64{0}, 900, nothing(impl.ErrState)},
		{[]int64{-300, 600}, []int64{0}, 901, nothing(impl.ErrRange)},
		{[]int64{-300, 600}, []int64{1}, -901, nothing(impl.ErrRange)},
		{[]int64{-300, 600}, []int64{1}, 0, listed([]int64{-300, 600}, impl.OK)},
		{[]int64{0, 200}, []int64{2}, 1, nothing(impl.ErrOrder)},
		{[]int64{0, 200}, []int64{2}, 901, nothing(impl.ErrRange)},
		{[]int64{0, 200}, []int64{1, 0}, 900, nothing(impl.ErrOrder)},
		{[]int64{0, 200}, []int64{1, 1}, 0, nothing(impl.ErrOrder)},
		{[]int64{0}, []int64{0}, 900, nothing(impl.ErrOrder)},
	} {
		expectOutcome(t, listed(impl.WarmAirways(loop(), c.temperatures, c.airways, c.by)), c.want, "WarmAirways", c)
	}
	expectOutcome(t, listed(impl.WarmAirways(impl.Mine{Junctions: 1}, nil, nil, 900)), nothing(impl.OK), "WarmAirways", "no airways")
	expectOutcome(t, listed(impl.WarmAirways(impl.Mine{Junctions: 1}, nil, []int64{0}, 900)), nothing(impl.ErrOrder), "WarmAirways", "no airways")
}

func TestDepthsOf(t *testing.T) {
	for _, c := range randomClimates() {
		top := int64(-3000)
		for _, level := range c.levels {
			top = max(top, level)
		}
		var want []int64
		for _, level := range c.levels {
			want = append(want, top-level)
		}
		expectOutcome(t, listed(impl.DepthsOf(c.m, c.levels)), listed(want, impl.OK), "DepthsOf", c.m, c.levels)
	}
	for _, c := range []struct{ levels, want []int64 }{
		{[]int64{0, -100, 50}, []int64{50, 150, 0}},
		{[]int64{-100, -100, -3000}, []int64{0, 0, 2900}},
		{[]int64{3000, -3000, 0}, []int64{0, 6000, 3000}},
		{[]int64{7, 7, 7}, []int64{0, 0, 0}},
	} {
		expectOutcome(t, listed(impl.DepthsOf(triangle(), c.levels)), listed(c.want, impl.OK), "DepthsOf", c)
	}
	expectOutcome(t, listed(impl.DepthsOf(impl.Mine{Junctions: 1}, []int64{-3000})), listed([]int64{0}, impl.OK), "DepthsOf", "one junction")
	expectOutcome(t, listed(impl.DepthsOf(impl.Mine{Junctions: 1}, []int64{-3001})), nothing(impl.ErrOrder), "DepthsOf", "one junction")
}

// withLengths returns a mine whose airways have other lengths.
func withLengths(m impl.Mine, lengths ...int64) impl.Mine {
	m.Airways = slices.Clone(m.Airways)
	for k := range m.Airways {
		m.Airways[k].Length = lengths[k%len(lengths)]
	}
	return m
}

func TestSteepestOf(t *testing.T) {
	random := rand.New(rand.NewSource(19))
	for _, c := range randomClimates() {
		m := withLengths(c.m, anyNumbers(random, 24, 1, 10000)...)
		want := nothing(impl.ErrNotFound)
		for k, a := range m.Airways {
			rise := c.levels[a.To] - c.levels[a.From]
			if slope := 1000 * max(rise, -rise) / a.Length; k == 0 || slope > want.list[1] {
				want = listed([]int64{int64(k), slope}, impl.OK)
			}
		}
		expectOutcome(t, paired(impl.SteepestOf(m, c.levels)), want, "SteepestOf", m, c.levels)
	}
	for _, c := range []struct {
		m      impl.Mine
		levels []int64
		want   outcome
	}{
		{withLengths(loop(), 500), []int64{0, -100}, listed([]int64{0, 200}, impl.OK)},
		{loop(), []int64{0, 100}, listed([]int64{0, 1000}, impl.OK)},
		// 200.4 is not more than 200, and 201.2 is.
		{withLengths(loop(), 500, 499), []int64{0, -100}, listed([]int64{0, 200}, impl.OK)},
		{withLengths(loop(), 500, 497), []int64{0, -100}, listed([]int64{1, 201}, impl.OK)},
		{triangle(), []int64{5, 5, 5}, listed([]int64{0, 0}, impl.OK)},
		// One that falls is as steep as one that rises.
		{withLengths(triangle(), 100, 100, 99), []int64{0, 10, 100}, listed([]int64{2, 1010}, impl.OK)},
		{triangle(), []int64{0, 10, 100}, listed([]int64{2, 1000}, impl.OK)},
		{triangle(), []int64{0, -60, -100}, listed([]int64{2, 1000}, impl.OK)},
		// 333.3 is not more than 333.
		{withLengths(triangle(), 1000, 3, 1000), []int64{0, 333, 332}, listed([]int64{0, 333}, impl.OK)},
		{withLengths(triangle(), 1000, 3, 1000), []int64{0, 332, 331}, listed([]int64{1, 333}, impl.OK)},
		{withLengths(loop(), 10000, 1), []int64{3000, -3000}, listed([]int64{1, 6000000}, impl.OK)},
		{withLengths(loop(), 10000), []int64{3, -6}, listed([]int64{0, 0}, impl.OK)},
		{withLengths(loop(), 10000, 9000), []int64{3, -6}, listed([]int64{1, 1}, impl.OK)},
		{impl.Mine{Junctions: 2}, []int64{0, 3000}, nothing(impl.ErrNotFound)},
		{impl.Mine{Junctions: 2}, []int64{0, 3001}, nothing(impl.ErrOrder)},
		{impl.Mine{Junctions: 2}, []int64{0}, nothing(impl.ErrOrder)},
		{impl.Mine{}, nil, nothing(impl.ErrInvalid)},
	} {
		expectOutcome(t, paired(impl.SteepestOf(c.m, c.levels)), c.want, "SteepestOf", c)
	}
}

// draughtResults returns what all functions of chapter 9 return.
func draughtResults(c climate, a, b int64) []any {
	all := []any{answerOf(impl.WarmDensity(a)), answerOf(impl.ColumnDraught(a, b)), answerOf(impl.TemperatureFor(a, b))}
	outcomes := draughtOutcomes(c)
	for _, name := range []string{"DraughtsOf", "WalkDraught", "StrongestMesh", "WarmAirways", "DepthsOf", "SteepestOf"} {
		all = append(all, outcomes[name])
	}
	return all
}

// wildClimates returns climates with arguments far beyond what any of them may be.
func wildClimates() []climate {
	wild := impl.Mine{Junctions: math.MaxInt64, Airways: make([]impl.Airway, 1000)}
	long := slices.Repeat([]int64{math.MinInt64, math.MaxInt64}, 5000)
	list := []climate{{}, {m: wild, levels: long, temperatures: long, walk: long, airways: long}, {m: loop(), levels: long[:2], temperatures: long[:2], walk: long, airways: long}}
	for _, n := range edgeNumbers() {
		list = append(list, climate{m: impl.Mine{Junctions: n}, levels: []int64{n}, walk: []int64{n}, airways: []int64{n}, by: n})
		for _, m := range []impl.Mine{loop(), grid(), wild} {
			levels, numbers := make([]int64, min(16, m.Junctions)), make([]int64, len(m.Airways))
			list = append(list, climate{m: m, levels: levels, temperatures: numbers, walk: []int64{n}, airways: []int64{n}, by: n})
			list = append(list, climate{m: m, levels: levels, temperatures: numbers, walk: []int64{1, n}, airways: []int64{0, n}, by: 1})
			list = append(list, climate{m: m, levels: slices.Repeat([]int64{n}, len(levels)), temperatures: numbers})
			list = append(list, climate{m: m, levels: levels, temperatures: slices.Repeat([]int64{n}, len(numbers))})
		}
	}
	return list
}

func TestDraughtsReturnTheSameForAllArguments(t *testing.T) {
	climates := append(append(randomClimates(), wildClimates()...), goodClimates()...)
	for _, good := range goodClimates() {
		climates = append(climates, faulty(good, faultsOfClimate(good))...)
	}
	for _, c := range climates {
		twice(t, "the functions of draughts", func() []any { return draughtResults(c, 5, 7) })
	}
	for _, a := range edgeNumbers() {
		for _, b := range edgeNumbers() {
			twice(t, "the functions of columns", func() []any { return draughtResults(climate{}, a, b) })
		}
	}
	empty := []int64{}
	for _, m := range []impl.Mine{{}, {Junctions: 1}, {Junctions: 1, Airways: []impl.Airway{}}, loop()} {
		for _, levels := range [][]int64{nil, {0}, {0, 0}} {
			a := climate{m: m, levels: levels}
			b := climate{m: m, levels: append(empty, levels...), temperatures: empty, walk: empty, airways: empty}
			if one, two := fmt.Sprint(draughtResults(a, 0, 0)), fmt.Sprint(draughtResults(b, 0, 0)); one != two {
				t.Errorf("no numbers in %v have %v as nil, and else %v", m, one, two)
			}
		}
	}
}

func TestDraughtsModifyNoArgument(t *testing.T) {
	for _, c := range append(append(randomClimates(), wildClimates()...), goodClimates()...) {
		var rooms [][]int64
		for _, list := range []*[]int64{&c.levels, &c.temperatures, &c.walk, &c.airways} {
			used, whole := roomyList(*list, -77)
			*list = used
			rooms = append(rooms, whole)
		}
		airways, allAirways := roomyList(c.m.Airways, airwayBetween(77, 1, 0))
		c.m.Airways = airways
		before := fmt.Sprint(rooms, allAirways)
		draughtResults(c, 5, 7)
		if after := fmt.Sprint(rooms, allAirways); after != before {
			t.Errorf("%s becomes %s", before, after)
		}
	}
}

func TestDraughtsReturnNewMemory(t *testing.T) {
	for _, c := range append(randomClimates(), goodClimates()...) {
		// Temperatures that do not change are returned as they are.
		c.by = 0
		for _, airways := range [][]int64{c.airways, nil} {
			c.airways = airways
			before, want := fmt.Sprint(c), draughtResults(c, 5, 7)
			for _, list := range []outcome{
				listed(impl.DraughtsOf(c.m, c.levels, c.temperatures)), listed(impl.WarmAirways(c.m, c.temperatures, c.airways, c.by)), listed(impl.DepthsOf(c.m, c.levels)),
			} {
				spoil(list.list, 77)
			}
			if fmt.Sprint(c) != before || !reflect.DeepEqual(draughtResults(c, 5, 7), want) {
				t.Errorf("results for %s share memory", before)
			}
		}
	}
}
