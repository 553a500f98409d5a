package tests

import (
	"fmt"
	"math"
	"math/bits"
	"math/rand"
	"reflect"
	"slices"
	"testing"

	"loop.example/g01021/impl"
)

// The declarations of chapter 12, which must keep their types.
var (
	_ func(m impl.Mine, resistances, flows []int64) ([]int64, int64)                                                                     = impl.DropsFor
	_ func(m impl.Mine, drops, push []int64, regulated []bool) ([]int64, int64)                                                          = impl.PotentialsOf
	_ func(m impl.Mine, drops, push []int64, regulated []bool) ([]int64, int64)                                                          = impl.RegulatorDrops
	_ func(m impl.Mine, drops, push []int64, regulated []bool) (loop []int64, sum, code int64)                                           = impl.WrongLoop
	_ func(m impl.Mine, drops, push []int64, regulated []bool, airway int64) (least, code int64)                                         = impl.LeastPush
	_ func(m impl.Mine, drops, push []int64, regulated []bool, candidates []int64, pressure, budget int64) (airways []int64, code int64) = impl.FewestBoosters
	_ func(flows, airways []int64, pressure int64) (power, code int64)                                                                   = impl.BoosterPower
	_ [impl.MaxPush]struct{}                                                                                                             = [20000]struct{}{}
)

// demand is a mine with all other arguments of the functions of chapter 12; powered are the flows for BoosterPower, boosted its airways.
type demand struct {
	m                        impl.Mine
	resistances, flows       []int64
	drops, push              []int64
	regulated                []bool
	candidates               []int64
	powered, boosted         []int64
	airway, pressure, budget int64
}

// fitting returns what the functions return that are OK where potentials fit.
func fitting(d demand) map[string]outcome {
	return map[string]outcome{
		"DropsFor":       listed(impl.DropsFor(d.m, d.resistances, d.flows)),
		"PotentialsOf":   listed(impl.PotentialsOf(d.m, d.drops, d.push, d.regulated)),
		"RegulatorDrops": listed(impl.RegulatorDrops(d.m, d.drops, d.push, d.regulated)),
		"LeastPush":      counted(impl.LeastPush(d.m, d.drops, d.push, d.regulated, d.airway)),
		"FewestBoosters": listed(impl.FewestBoosters(d.m, d.drops, d.push, d.regulated, d.candidates, d.pressure, d.budget)),
		"BoosterPower":   counted(impl.BoosterPower(d.powered, d.boosted, d.pressure)),
	}
}

// failing returns what the functions return that are OK where no potentials fit, but boosters help.
func failing(d demand) map[string]outcome {
	outcomes := fitting(d)
	delete(outcomes, "PotentialsOf")
	delete(outcomes, "RegulatorDrops")
	outcomes["WrongLoop"] = solved(impl.WrongLoop(d.m, d.drops, d.push, d.regulated))
	return outcomes
}

// twin returns the document's example: an airway with the drop 500, and another one back with the drop 300 and a regulator.
func twin() demand {
	return demand{m: loop(), drops: []int64{500, 300}, push: []int64{0, 0}, regulated: []bool{false, true}}
}

// goodFitting returns demands for which all functions of fitting return OK.
func goodFitting() []demand {
	eased := twin()
	eased.push = []int64{900, 0}
	eased.resistances, eased.flows, eased.candidates = []int64{1, 1000000}, []int64{-100000, 100000}, []int64{0, 1}
	eased.powered, eased.boosted = []int64{100000, -100000, 7}, []int64{0, 2}
	eased.airway, eased.pressure, eased.budget = 1, 20000, 1
	free := demand{
		m: triangle(), resistances: []int64{5, 6, 7}, flows: []int64{1, 0, -1}, drops: []int64{-1000000, 1000000, 0}, push: []int64{20000, -20000, 0}, regulated: []bool{true, true, true},
		candidates: nil, powered: nil, boosted: nil, airway: 0, pressure: 1, budget: 20000,
	}
	return []demand{eased, free}
}

// goodFailing returns demands for which all functions of failing return OK.
func goodFailing() []demand {
	short := twin()
	short.resistances, short.flows, short.candidates = []int64{7, 8}, []int64{9, -9}, []int64{0, 1}
	short.powered, short.boosted = []int64{5, 6}, []int64{1}
	short.airway, short.pressure, short.budget = 1, 400, 4
	circle := demand{
		m: triangle(), resistances: []int64{5, 6, 7}, flows: []int64{1, 0, -1}, drops: []int64{100, 200, 300}, push: []int64{50, 0, 0}, regulated: []bool{true, true, false},
		candidates: []int64{0, 2}, powered: slices.Repeat([]int64{-100000}, 24), boosted: []int64{0, 23}, airway: 1, pressure: 550, budget: 20000,
	}
	return []demand{short, circle}
}

func faultsOfDemand(d demand) []fault[demand] {
	withDemand := "PotentialsOf RegulatorDrops WrongLoop LeastPush FewestBoosters"
	count := int64(len(d.m.Airways))
	ofRegulated := fault[demand]{argument: "regulated", code: impl.ErrRange, in: withDemand}
	for _, n := range []int64{0, count - 1, count + 1, 1000} {
		for _, isRegulated := range []bool{true, false} {
			ofRegulated.changes = append(ofRegulated.changes, func(d *demand) { d.regulated = slices.Repeat([]bool{isRegulated}, int(n)) })
		}
	}
	var wrongFlows [][]int64
	for _, n := range []int64{math.MinInt64, -100001, 100001, math.MaxInt64} {
		wrongFlows = append(wrongFlows, []int64{n}, append(slices.Clone(d.powered), n), append([]int64{n}, d.powered...))
	}
	wrongFlows = append(wrongFlows, make([]int64, 25), make([]int64, 1000))
	unregulated := fault[demand]{argument: "airway", code: impl.ErrState, in: "LeastPush"}
	for k, isRegulated := range d.regulated {
		if !isRegulated {
			unregulated.changes = append(unregulated.changes, func(d *demand) { d.airway = int64(k) })
		}
	}
	faults := []fault[demand]{
		faultOfMine("DropsFor "+withDemand, func(d *demand, m impl.Mine) { d.m = m }),
		faultOfLists("resistances", impl.ErrRange, "DropsFor", wrongLists(d.resistances, 1, 1000000), func(d *demand, list []int64) { d.resistances = list }),
		faultOfLists("flows", impl.ErrRange, "DropsFor", wrongLists(d.flows, -100000, 100000), func(d *demand, list []int64) { d.flows = list }),
		faultOfLists("drops", impl.ErrRange, withDemand, wrongLists(d.drops, -1000000, 1000000), func(d *demand, list []int64) { d.drops = list }),
		faultOfLists("push", impl.ErrRange, withDemand, wrongLists(d.push, -20000, 20000), func(d *demand, list []int64) { d.push = list }),
		ofRegulated,
		faultOfNumber("airway", "LeastPush", 0, count-1, func(d *demand, n int64) { d.airway = n }),
		faultOfLists("candidates", impl.ErrRange, "FewestBoosters", wrongIndices(count), func(d *demand, list []int64) { d.candidates = list }),
		faultOfNumber("pressure", "FewestBoosters BoosterPower", 1, 20000, func(d *demand, n int64) { d.pressure = n }),
		faultOfNumber("budget", "FewestBoosters", 1, 20000, func(d *demand, n int64) { d.budget = n }),
		faultOfLists("powered", impl.ErrRange, "BoosterPower", wrongFlows, func(d *demand, list []int64) { d.powered = list }),
		faultOfLists("boosted", impl.ErrRange, "BoosterPower", wrongIndices(int64(len(d.powered))), func(d *demand, list []int64) { d.boosted = list }),
	}
	if len(unregulated.changes) > 0 {
		faults = append(faults, unregulated)
	}
	return faults
}

func TestErrorsOfBoosters(t *testing.T) {
	for _, good := range goodFitting() {
		expectErrors(t, good, fitting, faultsOfDemand(good))
	}
	for _, good := range goodFailing() {
		expectErrors(t, good, failing, faultsOfDemand(good))
	}
}

// arc is an airway in a direction in which a potential may rise by no more than a gain.
type arc struct{ step, from, to, gain int64 }

// arcsOf returns the arcs of a demand in the order in which walks are compared.
func arcsOf(d demand) []arc {
	var arcs []arc
	for k, a := range d.m.Airways {
		step, gain := int64(k)+1, d.push[k]-d.drops[k]
		arcs = append(arcs, arc{step, a.From, a.To, gain})
		if !d.regulated[k] {
			arcs = append(arcs, arc{-step, a.To, a.From, -gain})
		}
	}
	return arcs
}

// wantPotentials works out the least sum of a walk between each two junctions, and returns the potentials that fit; false if there are none.
func wantPotentials(d demand) ([]int64, bool) {
	const far = 1 << 40
	n := d.m.Junctions
	sums := make([][]int64, n)
	for i := range sums {
		sums[i] = slices.Repeat([]int64{far}, int(n))
		sums[i][i] = 0
	}
	for _, a := range arcsOf(d) {
		sums[a.from][a.to] = min(sums[a.from][a.to], a.gain)
	}
	for k := range n {
		for i := range n {
			for j := range n {
				if sums[i][k] < far && sums[k][j] < far {
					sums[i][j] = min(sums[i][j], sums[i][k]+sums[k][j])
				}
			}
		}
		// Sums of loops that are less than 0 would double with each round.
		for i := range n {
			if sums[i][i] < 0 {
				return nil, false
			}
		}
	}
	potentials := make([]int64, n)
	for i := range n {
		for j := range n {
			potentials[j] = min(potentials[j], sums[i][j])
		}
	}
	return potentials, true
}

// taken returns what regulators must take away with potentials.
func taken(d demand, potentials []int64) []int64 {
	var list []int64
	for k, a := range d.m.Airways {
		list = append(list, potentials[a.From]-potentials[a.To]+d.push[k]-d.drops[k])
	}
	return list
}

// fit reports whether potentials fit, as the document says it.
func fit(d demand, potentials []int64) bool {
	for k, n := range taken(d, potentials) {
		if n < 0 || n > 0 && !d.regulated[k] {
			return false
		}
	}
	return int64(len(potentials)) == d.m.Junctions
}

// eachLoop calls a function with all loops that begin with their least junction and come to none twice, and with their sums.
func eachLoop(arcs []arc, call func(loop []int64, sum int64)) {
	var walk []int64
	var been [16]bool
	var begin int64
	var on func(here, sum int64)
	on = func(here, sum int64) {
		for _, a := range arcs {
			if a.from != here || a.to < begin || been[a.to] && a.to != begin {
				continue
			}
			walk = append(walk, a.step)
			if a.to == begin {
				call(walk, sum+a.gain)
			} else {
				been[a.to] = true
				on(a.to, sum+a.gain)
				been[a.to] = false
			}
			walk = walk[:len(walk)-1]
		}
	}
	for begin = range 16 {
		been = [16]bool{}
		been[begin] = true
		on(begin, 0)
	}
}

// wantLoop looks at all loops.
func wantLoop(d demand) outcome {
	best := nothing(impl.ErrNotFound)
	beginOf := func(loop []int64) int64 {
		a := d.m.Airways[max(loop[0], -loop[0])-1]
		if loop[0] > 0 {
			return a.From
		}
		return a.To
	}
	isBefore := func(a, b []int64) bool {
		if len(a) != len(b) {
			return len(a) < len(b)
		}
		if beginOf(a) != beginOf(b) {
			return beginOf(a) < beginOf(b)
		}
		if c := slices.Compare(indicesOf(a), indicesOf(b)); c != 0 {
			return c < 0
		}
		return slices.Compare(b, a) < 0
	}
	eachLoop(arcsOf(d), func(loop []int64, sum int64) {
		if sum < 0 && (best.code != impl.OK || isBefore(loop, best.list)) {
			best = solved(slices.Clone(loop), sum, impl.OK)
		}
	})
	return best
}

// boostedBy returns a demand with more push in some airways, which may be more than a push may have.
func boostedBy(d demand, pressure int64, airways ...int64) demand {
	d.push = slices.Clone(d.push)
	for _, k := range airways {
		d.push[k] += pressure
	}
	return d
}

func hasPotentials(d demand) bool {
	_, ok := wantPotentials(d)
	return ok
}

// setsInOrder returns all sets of candidates, smaller ones first, and those of the same size in lexicographic order.
func setsInOrder(candidates []int64) [][]int64 {
	var sets [][]int64
	for mask := range uint(1) << len(candidates) {
		set := make([]int64, 0, bits.OnesCount(mask))
		for i, k := range candidates {
			if mask>>i&1 == 1 {
				set = append(set, k)
			}
		}
		sets = append(sets, set)
	}
	slices.SortFunc(sets, func(a, b []int64) int {
		if len(a) != len(b) {
			return len(a) - len(b)
		}
		return slices.Compare(a, b)
	})
	return sets
}

func wantBoosters(d demand) outcome {
	for i, set := range setsInOrder(d.candidates) {
		if int64(i) == d.budget {
			return nothing(impl.ErrFull)
		}
		if hasPotentials(boostedBy(d, d.pressure, set...)) {
			return listed(set, impl.OK)
		}
	}
	return nothing(impl.ErrNotFound)
}

// scales are for numbers that are near their limits, that are ordinary, and that are often equal.
func scales() []int64 { return []int64{1000000, 1000, 3, 1} }

// numberUpTo returns a number from -most to most.
func numberUpTo(random *rand.Rand, most int64) int64 { return random.Int63n(2*most+1) - most }

// anyDemand returns a demand with the number of airways whose regulators are missing told in parts of 8. If it is levelled, potentials fit.
func anyDemand(random *rand.Rand, m impl.Mine, most int64, unregulated int, levelled bool) demand {
	d := demand{m: m, pressure: 1 + random.Int63n(min(20000, 2*most)), budget: 1 + random.Int63n(40)}
	levels := make([]int64, m.Junctions)
	for j := range levels {
		levels[j] = numberUpTo(random, most/3)
	}
	for k, a := range m.Airways {
		isRegulated := random.Intn(8) >= unregulated
		push := numberUpTo(random, min(most/10+1, 20000))
		drop := numberUpTo(random, most)
		if levelled {
			drop = levels[a.From] - levels[a.To] + push
			if isRegulated {
				drop -= random.Int63n(most/5 + 2)
			}
		}
		d.push, d.drops, d.regulated = append(d.push, push), append(d.drops, max(-1000000, min(1000000, drop))), append(d.regulated, isRegulated)
		if random.Intn(2) == 0 {
			d.candidates = append(d.candidates, int64(k))
		}
		d.flows, d.resistances = append(d.flows, numberUpTo(random, 100000)), append(d.resistances, 1+random.Int63n(1000000))
	}
	if len(m.Airways) > 0 {
		d.airway = random.Int63n(int64(len(m.Airways)))
	}
	// One drop that is too great makes loops wrong in which all others just fit.
	if levelled && len(m.Airways) > 0 && random.Intn(2) == 0 {
		d.drops[d.airway] = min(1000000, d.drops[d.airway]+1+random.Int63n(most))
	}
	d.powered, d.boosted = d.flows, d.candidates
	return d
}

// looped returns a mine with airways around all its junctions, in both directions and in any order, and some more.
func looped(random *rand.Rand, junctions, more int) impl.Mine {
	var ends [][2]int64
	order := random.Perm(junctions)
	for i, from := range order {
		e := [2]int64{int64(from), int64(order[(i+1)%junctions])}
		if random.Intn(4) == 0 {
			e[0], e[1] = e[1], e[0]
		}
		ends = append(ends, e)
	}
	for _, a := range randomMine(random, junctions, more).Airways {
		ends = append(ends, [2]int64{a.From, a.To})
	}
	random.Shuffle(len(ends), func(i, j int) { ends[i], ends[j] = ends[j], ends[i] })
	return mineOf(int64(junctions), ends...)
}

func randomDemands() []demand {
	random := rand.New(rand.NewSource(12))
	var list []demand
	for i, m := range validMines() {
		for _, most := range scales() {
			list = append(list, anyDemand(random, m, most, i%9, false), anyDemand(random, m, most, random.Intn(9), true))
		}
	}
	for i := range 1200 {
		junctions := 3 + random.Intn(5)
		list = append(list, anyDemand(random, looped(random, junctions, random.Intn(4)), scales()[i%4], random.Intn(7), i%5 > 0))
	}
	for i := range 60 {
		list = append(list, anyDemand(random, looped(random, 9+random.Intn(8), random.Intn(9)), scales()[i%4], random.Intn(7), true))
	}
	return list
}

// TestPotentialsOrALoop covers P13: either there are potentials that fit, or a loop whose sum is less than 0.
func TestPotentialsOrALoop(t *testing.T) {
	codes, lengths := map[int64]int{}, map[int]int{}
	for _, d := range randomDemands() {
		potentials := listed(impl.PotentialsOf(d.m, d.drops, d.push, d.regulated))
		drops := listed(impl.RegulatorDrops(d.m, d.drops, d.push, d.regulated))
		loop := solved(impl.WrongLoop(d.m, d.drops, d.push, d.regulated))
		codes[potentials.code]++
		lengths[len(loop.list)]++
		if potentials.code != impl.OK {
			expectOutcome(t, potentials, nothing(impl.ErrNotFound), "PotentialsOf", d)
			expectOutcome(t, drops, nothing(impl.ErrNotFound), "RegulatorDrops", d)
			checkLoop(t, d, loop)
			continue
		}
		expectOutcome(t, loop, nothing(impl.ErrNotFound), "WrongLoop", d)
		if !fit(d, potentials.list) || slices.Max(potentials.list) > 0 {
			t.Errorf("PotentialsOf of %v: %v", d, potentials)
			continue
		}
		expectOutcome(t, drops, listed(taken(d, potentials.list), impl.OK), "RegulatorDrops", d)
	}
	if codes[impl.OK] < 1000 || codes[impl.ErrNotFound] < 1000 || lengths[2] < 500 || lengths[3] < 200 || lengths[4] < 50 {
		t.Errorf("the codes are %v, and the lengths of loops %v", codes, lengths)
	}
}

// checkLoop expects a loop that is possible, comes to no junction twice, begins with its least one, and has its sum, which is less than 0.
func checkLoop(t *testing.T, d demand, loop outcome) {
	t.Helper()
	if loop.code != impl.OK || len(loop.list) == 0 || loop.number >= 0 {
		t.Errorf("WrongLoop of %v: %v, but no potentials fit", d, loop)
		return
	}
	sum, been := int64(0), []int64{}
	for i := range loop.list {
		k := slices.IndexFunc(arcsOf(d), func(a arc) bool { return a.step == loop.list[i] })
		if k < 0 {
			t.Errorf("WrongLoop of %v: %v has the impossible step %d", d, loop, loop.list[i])
			return
		}
		a := arcsOf(d)[k]
		sum += a.gain
		been = append(been, a.from)
	}
	end, ok := walked(d.m, loop.list, been[0])
	if !ok || end != been[0] || sum != loop.number || slices.Min(been) != been[0] {
		t.Errorf("WrongLoop of %v: %v comes to %v with the sum %d", d, loop, been, sum)
	}
	slices.Sort(been)
	if len(slices.Compact(been)) != len(loop.list) {
		t.Errorf("WrongLoop of %v: %v comes to a junction twice", d, loop)
	}
}

func TestPotentialsAreTheGreatest(t *testing.T) {
	for _, d := range randomDemands() {
		want := nothing(impl.ErrNotFound)
		if potentials, ok := wantPotentials(d); ok {
			want = listed(potentials, impl.OK)
		}
		expectOutcome(t, listed(impl.PotentialsOf(d.m, d.drops, d.push, d.regulated)), want, "PotentialsOf", d)
	}
}

// TestPotentialsAmongAll tries all potentials of small mines.
func TestPotentialsAmongAll(t *testing.T) {
	random := rand.New(rand.NewSource(120))
	found := 0
	for i := range 3000 {
		d := anyDemand(random, randomMine(random, 3, random.Intn(6)), 2, i%9, i%2 == 0)
		greatest := []int64{math.MinInt64, math.MinInt64, math.MinInt64}
		ok := false
		// No potential is lower than two gains, of which none is greater than 4.
		for n := range int64(9 * 9 * 9) {
			potentials := []int64{-(n % 9), -(n / 9 % 9), -(n / 81)}
			if fit(d, potentials) {
				ok = true
				for j, p := range potentials {
					greatest[j] = max(greatest[j], p)
				}
			}
		}
		want := nothing(impl.ErrNotFound)
		if ok {
			want = listed(greatest, impl.OK)
			found++
		}
		expectOutcome(t, listed(impl.PotentialsOf(d.m, d.drops, d.push, d.regulated)), want, "PotentialsOf", d)
	}
	if found < 500 || found > 2500 {
		t.Errorf("for %d mines there are potentials", found)
	}
}

func TestWrongLoopsAreTheFirst(t *testing.T) {
	several := 0
	for _, d := range randomDemands() {
		want := wantLoop(d)
		expectOutcome(t, solved(impl.WrongLoop(d.m, d.drops, d.push, d.regulated)), want, "WrongLoop", d)
		same := 0
		eachLoop(arcsOf(d), func(loop []int64, sum int64) {
			if sum < 0 && len(loop) == len(want.list) {
				same++
			}
		})
		if same > 1 {
			several++
		}
	}
	if several < 500 {
		t.Errorf("only %d demands have several shortest loops", several)
	}
}

// ring returns so many airways around as many junctions, each from one to the next.
func ring(count int64) impl.Mine {
	var ends [][2]int64
	for j := range count {
		ends = append(ends, [2]int64{j, (j + 1) % count})
	}
	return mineOf(count, ends...)
}

// demandFor returns a demand with no push; letters tell the airways with a regulator.
func demandFor(m impl.Mine, regulated string, drops ...int64) demand {
	d := demand{m: m, drops: drops, push: make([]int64, len(drops))}
	for _, letter := range regulated {
		d.regulated = append(d.regulated, letter == 'r')
	}
	return d
}

func TestPotentialsByHand(t *testing.T) {
	pushed := func(d demand, push ...int64) demand {
		d.push = push
		return d
	}
	for _, c := range []struct {
		d                 demand
		potentials, drops []int64
	}{
		{pushed(twin(), 900, 0), []int64{-400, 0}, []int64{0, 100}},
		{pushed(twin(), 800, 0), []int64{-300, 0}, []int64{0, 0}},
		{pushed(twin(), 500, 300), []int64{0, 0}, []int64{0, 0}},
		{pushed(twin(), 0, 800), []int64{0, -500}, []int64{0, 0}},
		{pushed(twin(), 0, 900), []int64{0, -500}, []int64{0, 100}},
		// With a regulator nothing forces a potential down.
		{demandFor(loop(), "rr", -500, -300), []int64{0, 0}, []int64{500, 300}},
		{demandFor(loop(), "rr", 500, -600), []int64{0, -500}, []int64{0, 100}},
		{demandFor(loop(), "r-", -700, -300), []int64{0, -300}, []int64{1000, 0}},
		{demandFor(loop(), "r-", 700, -800), []int64{0, -800}, []int64{100, 0}},
		{demandFor(loop(), "-r", -700, 300), []int64{-700, 0}, []int64{0, 400}},
		{demandFor(loop(), "--", 500, -500), []int64{0, -500}, []int64{0, 0}},
		{demandFor(loop(), "--", -500, 500), []int64{-500, 0}, []int64{0, 0}},
		// Walks go on over several airways.
		{demandFor(line(), "---------------", 1, 1, 1, 1, 1, 1, 1, 1, 1, 1, 1, 1, 1, 1, 1), []int64{0, -1, -2, -3, -4, -5, -6, -7, -8, -9, -10, -11, -12, -13, -14, -15}, make([]int64, 15)},
		{demandFor(line(), "---------------", -1, -1, -1, -1, -1, -1, -1, -1, -1, -1, -1, -1, -1, -1, -1), []int64{-15, -14, -13, -12, -11, -10, -9, -8, -7, -6, -5, -4, -3, -2, -1, 0}, make([]int64, 15)},
		{demandFor(line(), "rrrrrrrrrrrrrrr", -1, -1, -1, -1, -1, -1, -1, -1, -1, -1, -1, -1, -1, -1, -1), make([]int64, 16), slices.Repeat([]int64{1}, 15)},
		// Parts have their own potentials.
		{demandFor(mineOf(5, [2]int64{3, 1}, [2]int64{0, 4}), "--", 5, -7), []int64{-7, -5, 0, 0, 0}, []int64{0, 0}},
		{demandFor(impl.Mine{Junctions: 1}, ""), []int64{0}, nil},
		{demandFor(impl.Mine{Junctions: 16}, ""), make([]int64, 16), nil},
		// Limits of drops and of push.
		{pushed(demandFor(loop(), "r-", -1000000, 1000000), 20000, -20000), []int64{-1020000, 0}, []int64{0, 0}},
		{pushed(demandFor(loop(), "rr", -1000000, -1000000), 20000, 20000), []int64{0, 0}, []int64{1020000, 1020000}},
		{pushed(demandFor(loop(), "--", 1000000, -1000000), -20000, 20000), []int64{0, -1020000}, []int64{0, 0}},
		{twin(), nil, nil},
		{pushed(twin(), 799, 0), nil, nil},
		{demandFor(loop(), "--", 500, -499), nil, nil},
		{demandFor(loop(), "--", 499, -500), nil, nil},
		{demandFor(loop(), "rr", 1, 0), nil, nil},
	} {
		potentials, drops := listed(c.potentials, impl.OK), listed(c.drops, impl.OK)
		if c.potentials == nil {
			potentials, drops = nothing(impl.ErrNotFound), nothing(impl.ErrNotFound)
		}
		expectOutcome(t, listed(impl.PotentialsOf(c.d.m, c.d.drops, c.d.push, c.d.regulated)), potentials, "PotentialsOf", c.d)
		expectOutcome(t, listed(impl.RegulatorDrops(c.d.m, c.d.drops, c.d.push, c.d.regulated)), drops, "RegulatorDrops", c.d)
	}
}

func TestWrongLoopsByHand(t *testing.T) {
	pushed := func(d demand, push ...int64) demand {
		d.push = push
		return d
	}
	// Two triangles with a junction in common, 0, 1, 2 and 0, 3, 4.
	bow := mineOf(5, [2]int64{0, 3}, [2]int64{3, 4}, [2]int64{4, 0}, [2]int64{0, 1}, [2]int64{1, 2}, [2]int64{2, 0})
	// A pair of airways between 1 and 2, and one between 0 and 3, with the lesser indices.
	pairs := mineOf(4, [2]int64{1, 2}, [2]int64{2, 1}, [2]int64{3, 0}, [2]int64{0, 3})
	for _, c := range []struct {
		d    demand
		want outcome
	}{
		{twin(), solved([]int64{1, 2}, -800, impl.OK)},
		{pushed(twin(), 799, 0), solved([]int64{1, 2}, -1, impl.OK)},
		{pushed(twin(), 0, 799), solved([]int64{1, 2}, -1, impl.OK)},
		{pushed(twin(), 800, 0), nothing(impl.ErrNotFound)},
		{pushed(twin(), 900, 0), nothing(impl.ErrNotFound)},
		{pushed(demandFor(loop(), "rr", 1000000, 1000000), -20000, -20000), solved([]int64{1, 2}, -2040000, impl.OK)},
		// Without regulators a loop is wrong in one of its directions.
		{demandFor(loop(), "--", 500, -499), solved([]int64{1, 2}, -1, impl.OK)},
		{demandFor(loop(), "--", 499, -500), solved([]int64{-2, -1}, -1, impl.OK)},
		{demandFor(loop(), "--", 500, -500), nothing(impl.ErrNotFound)},
		{demandFor(loop(), "r-", 499, -500), nothing(impl.ErrNotFound)},
		{demandFor(loop(), "-r", 499, -500), nothing(impl.ErrNotFound)},
		{demandFor(mineOf(2, [2]int64{0, 1}, [2]int64{0, 1}), "--", 500, 499), solved([]int64{1, -2}, -1, impl.OK)},
		{demandFor(mineOf(2, [2]int64{0, 1}, [2]int64{0, 1}), "--", 499, 500), solved([]int64{2, -1}, -1, impl.OK)},
		{demandFor(mineOf(2, [2]int64{0, 1}, [2]int64{0, 1}), "-r", 500, 499), nothing(impl.ErrNotFound)},
		{demandFor(mineOf(2, [2]int64{0, 1}, [2]int64{0, 1}), "r-", 500, 499), solved([]int64{1, -2}, -1, impl.OK)},
		{demandFor(mineOf(2, [2]int64{1, 0}, [2]int64{1, 0}), "--", 500, 499), solved([]int64{-2, 1}, -1, impl.OK)},
		{demandFor(triangle(), "---", 1, 2, -4), solved([]int64{-3, -2, -1}, -1, impl.OK)},
		{demandFor(triangle(), "---", 1, 2, -2), solved([]int64{1, 2, 3}, -1, impl.OK)},
		{demandFor(triangle(), "rrr", 1, 2, -2), solved([]int64{1, 2, 3}, -1, impl.OK)},
		{demandFor(triangle(), "rrr", 1, 2, -4), nothing(impl.ErrNotFound)},
		// Fewer airways come before a lesser sum and a lesser junction, and this before lesser indices.
		{demandFor(fork(), "rrr", 5, -4, -3), solved([]int64{1, 2}, -1, impl.OK)},
		{demandFor(fork(), "rrr", 5, -5, -3), solved([]int64{1, 3}, -2, impl.OK)},
		{demandFor(fork(), "rrr", 5, 5, 90), solved([]int64{1, 2}, -10, impl.OK)},
		{demandFor(pairs, "rrrr", 9, 9, 1, 0), solved([]int64{4, 3}, -1, impl.OK)},
		{demandFor(pairs, "rrrr", 9, 9, 1, -1), solved([]int64{1, 2}, -18, impl.OK)},
		{demandFor(bow, "rrrrrr", 1, 1, 1, 5, 5, 5), solved([]int64{1, 2, 3}, -3, impl.OK)},
		{demandFor(bow, "rrrrrr", 0, 0, 0, 5, 5, 5), solved([]int64{4, 5, 6}, -15, impl.OK)},
		{demandFor(bow, "------", -1, 0, 0, 5, 5, 5), solved([]int64{-3, -2, -1}, -1, impl.OK)},
		{demandFor(bow, "------", -1, 0, 1, 5, 5, 5), solved([]int64{4, 5, 6}, -15, impl.OK)},
		// A long loop with a lesser sum, and a short one.
		{demandFor(mineOf(4, [2]int64{0, 1}, [2]int64{1, 2}, [2]int64{2, 0}, [2]int64{2, 3}, [2]int64{3, 2}), "rrrrr", 50, 50, 50, 1, 0), solved([]int64{4, 5}, -1, impl.OK)},
		// A walk that goes on with a lesser index may not come back in so few airways, or not with such a sum.
		{demandFor(mineOf(3, [2]int64{0, 1}, [2]int64{1, 0}, [2]int64{1, 0}, [2]int64{0, 1}), "rrrr", 1, 0, 0, 5), solved([]int64{1, 2}, -1, impl.OK)},
		{demandFor(mineOf(3, [2]int64{0, 1}, [2]int64{1, 0}, [2]int64{1, 0}, [2]int64{0, 1}), "rrrr", 1, -1, 0, 5), solved([]int64{1, 3}, -1, impl.OK)},
		{demandFor(mineOf(3, [2]int64{0, 1}, [2]int64{1, 0}, [2]int64{1, 0}, [2]int64{0, 1}), "rrrr", 1, -1, -1, 5), solved([]int64{4, 2}, -4, impl.OK)},
		{demandFor(mineOf(3, [2]int64{0, 2}, [2]int64{0, 1}, [2]int64{1, 0}), "rrr", 100, 1, 0), solved([]int64{2, 3}, -1, impl.OK)},
		// A loop that does not begin at the junction 0.
		{demandFor(mineOf(4, [2]int64{3, 1}, [2]int64{2, 3}, [2]int64{1, 2}), "rrr", 1, 0, 0), solved([]int64{3, 2, 1}, -1, impl.OK)},
		// As many airways as there are junctions.
		{demandFor(ring(16), "rrrrrrrrrrrrrrrr", 1, 0, 0, 0, 0, 0, 0, 0, 0, 0, 0, 0, 0, 0, 0, 0), solved([]int64{1, 2, 3, 4, 5, 6, 7, 8, 9, 10, 11, 12, 13, 14, 15, 16}, -1, impl.OK)},
		{demandFor(ring(16), "----------------", -1, 0, 0, 0, 0, 0, 0, 0, 0, 0, 0, 0, 0, 0, 0, 0), solved([]int64{-16, -15, -14, -13, -12, -11, -10, -9, -8, -7, -6, -5, -4, -3, -2, -1}, -1, impl.OK)},
		{demandFor(ring(16), "rrrrrrrrrrrrrrrr", 0, 0, 0, 0, 0, 0, 0, 0, 0, 0, 0, 0, 0, 0, 0, 0), nothing(impl.ErrNotFound)},
		{demandFor(impl.Mine{Junctions: 1}, ""), nothing(impl.ErrNotFound)},
		{demandFor(impl.Mine{Junctions: 16}, ""), nothing(impl.ErrNotFound)},
		{demandFor(line(), "---------------", 1, 1, 1, 1, 1, 1, 1, 1, 1, 1, 1, 1, 1, 1, 1), nothing(impl.ErrNotFound)},
	} {
		expectOutcome(t, solved(impl.WrongLoop(c.d.m, c.d.drops, c.d.push, c.d.regulated)), c.want, "WrongLoop", c.d)
	}
}

// TestLeastPushes covers P13 for the push that is added: with one less there are no potentials.
func TestLeastPushes(t *testing.T) {
	codes, added := map[int64]int{}, 0
	for _, d := range randomDemands() {
		if len(d.m.Airways) == 0 {
			continue
		}
		got := answerOf(impl.LeastPush(d.m, d.drops, d.push, d.regulated, d.airway))
		codes[got.code]++
		switch {
		case !d.regulated[d.airway]:
			expect(t, got, failed(impl.ErrState), "LeastPush", d)
		case !hasPotentials(boostedBy(d, 20000, d.airway)):
			expect(t, got, failed(impl.ErrNotFound), "LeastPush", d)
		case got.code != impl.OK || !from(0, 20000, got.value) || !hasPotentials(boostedBy(d, got.value, d.airway)):
			t.Errorf("LeastPush of %v: %v", d, got)
		case got.value > 0 && hasPotentials(boostedBy(d, got.value-1, d.airway)):
			t.Errorf("LeastPush of %v: %v, but less is enough", d, got)
		case got.value > 0:
			added++
		}
	}
	if codes[impl.OK] < 500 || codes[impl.ErrNotFound] < 300 || codes[impl.ErrState] < 500 || added < 200 {
		t.Errorf("the codes are %v, and %d pushes are added", codes, added)
	}
}

func TestLeastPushesByHand(t *testing.T) {
	with := func(d demand, airway int64, push ...int64) demand {
		d.airway = airway
		if push != nil {
			d.push = push
		}
		return d
	}
	for _, c := range []struct {
		d    demand
		want answer
	}{
		// The document's example.
		{with(twin(), 1), answer{800, impl.OK}},
		{with(twin(), 1, 799, 0), answer{1, impl.OK}},
		{with(twin(), 1, 800, 0), answer{0, impl.OK}},
		{with(twin(), 1, 900, 0), answer{0, impl.OK}},
		{with(twin(), 1, 0, 300), answer{500, impl.OK}},
		{with(twin(), 1, -20000, 0), failed(impl.ErrNotFound)},
		{with(twin(), 0), failed(impl.ErrState)},
		{with(twin(), 0, 900, 0), failed(impl.ErrState)},
		{with(twin(), 2), failed(impl.ErrRange)},
		{with(twin(), -1), failed(impl.ErrRange)},
		// MaxPush is reached, and passed by one; what is pushed already does not count.
		{with(demandFor(loop(), "rr", 12000, 8000), 0), answer{20000, impl.OK}},
		{with(demandFor(loop(), "rr", 12000, 8001), 0), failed(impl.ErrNotFound)},
		{with(demandFor(loop(), "rr", 12000, 8001), 0, 1, 0), answer{20000, impl.OK}},
		{with(demandFor(loop(), "rr", 40000, 0), 0, 20000, 0), answer{20000, impl.OK}},
		{with(demandFor(loop(), "rr", 40001, 0), 0, 20000, 0), failed(impl.ErrNotFound)},
		{with(demandFor(loop(), "rr", 1000000, -1000000), 0), answer{0, impl.OK}},
		{with(demandFor(loop(), "rr", 1000000, -999999), 1), answer{1, impl.OK}},
		// A loop without the airway stays wrong.
		{with(demandFor(mineOf(3, [2]int64{0, 1}, [2]int64{1, 0}, [2]int64{1, 2}), "rrr", 1, 0, 0), 2), failed(impl.ErrNotFound)},
		{with(demandFor(mineOf(3, [2]int64{0, 1}, [2]int64{1, 0}, [2]int64{1, 2}), "rrr", 1, -1, 5), 2), answer{0, impl.OK}},
		// The loop that needs most counts.
		{with(demandFor(fork(), "rrr", 5, 6, 7), 0), answer{12, impl.OK}},
		{with(demandFor(fork(), "rrr", 5, 6, -5), 1), answer{11, impl.OK}},
		{with(demandFor(fork(), "rrr", 5, 6, -4), 1), failed(impl.ErrNotFound)},
		{with(demandFor(ring(16), "rrrrrrrrrrrrrrrr", 1, 2, 3, 4, 5, 6, 7, 8, 9, 10, 11, 12, 13, 14, 15, 16), 15), answer{136, impl.OK}},
	} {
		expect(t, answerOf(impl.LeastPush(c.d.m, c.d.drops, c.d.push, c.d.regulated, c.d.airway)), c.want, "LeastPush", c.d)
	}
}

func boosters(d demand) outcome {
	return listed(impl.FewestBoosters(d.m, d.drops, d.push, d.regulated, d.candidates, d.pressure, d.budget))
}

// boosterDemands returns demands with few candidates, as a model has the time for.
func boosterDemands() []demand {
	var list []demand
	for i, d := range randomDemands() {
		if i%3 == 0 && len(d.candidates) < 6 || len(d.candidates) > 7 && i%50 != 0 || len(d.candidates) > 12 {
			continue
		}
		list = append(list, d)
	}
	random := rand.New(rand.NewSource(1200))
	for range 1500 {
		// Loops of a few airways, each of which lacks about as much as a few boosters push.
		m := randomMine(random, 3+random.Intn(3), 4+random.Intn(4))
		d := anyDemand(random, m, 3, random.Intn(5), true)
		d.pressure, d.budget = 1+random.Int63n(4), 1+random.Int63n(80)
		d.candidates = nil
		for k := range m.Airways {
			if random.Intn(6) > 0 {
				d.candidates = append(d.candidates, int64(k))
			}
		}
		for range 1 + random.Intn(3) {
			d.drops[random.Intn(len(d.drops))] += random.Int63n(4*d.pressure + 1)
		}
		list = append(list, d)
	}
	return list
}

// TestBoostersThatAreFoundAreEnough covers P13 for boosters: no set that comes before is enough.
func TestBoostersThatAreFoundAreEnough(t *testing.T) {
	codes, sizes := map[int64]int{}, map[int]int{}
	for _, d := range boosterDemands() {
		got := boosters(d)
		codes[got.code]++
		expectOutcome(t, got, wantBoosters(d), "FewestBoosters", d)
		if got.code != impl.OK {
			continue
		}
		sizes[len(got.list)]++
		if with := boostedBy(d, d.pressure, got.list...); from(-20000, 20000, with.push...) {
			potentials := listed(impl.PotentialsOf(with.m, with.drops, with.push, with.regulated))
			if potentials.code != impl.OK || !fit(with, potentials.list) {
				t.Errorf("FewestBoosters of %v: %v, with which there are the potentials %v", d, got, potentials)
			}
		}
	}
	if codes[impl.OK] < 1000 || codes[impl.ErrNotFound] < 500 || codes[impl.ErrFull] < 400 || sizes[1] < 200 || sizes[2] < 50 || sizes[3] < 10 {
		t.Errorf("the codes are %v, and the sizes of sets %v", codes, sizes)
	}
}

// expectBudgets finds the least budget with which a search among sets of candidates has a result, which is the number of sets that are tried.
func expectBudgets(t *testing.T, candidates []int64, search func(budget int64) outcome, name string, args any) {
	t.Helper()
	want, sets := search(20000), setsInOrder(candidates)
	nodes := int64(len(sets))
	if want.code == impl.OK {
		nodes = int64(slices.IndexFunc(sets, func(set []int64) bool { return slices.Equal(set, want.list) })) + 1
	}
	for budget := int64(1); budget < nodes+3; budget++ {
		if budget < nodes {
			expectOutcome(t, search(budget), nothing(impl.ErrFull), name, args, budget)
		} else {
			expectOutcome(t, search(budget), want, name, args, budget)
		}
	}
}

func TestBudgetsOfBoosters(t *testing.T) {
	for i, d := range boosterDemands() {
		if i%10 != 0 || len(d.candidates) > 7 {
			continue
		}
		expectBudgets(t, d.candidates, func(budget int64) outcome {
			d.budget = budget
			return boosters(d)
		}, "FewestBoosters", d)
	}
}

// all returns the indices below a number.
func all(count int64) []int64 {
	var list []int64
	for k := range count {
		list = append(list, k)
	}
	return list
}

func TestBoostersByHand(t *testing.T) {
	with := func(d demand, pressure, budget int64, candidates ...int64) demand {
		d.pressure, d.budget, d.candidates = pressure, budget, candidates
		return d
	}
	eased := twin()
	eased.push = []int64{900, 0}
	open := demandFor(loop(), "--", 500, -100)
	// In the ring each airway lacks 1.
	circle := demandFor(ring(16), "rrrrrrrrrrrrrrrr", slices.Repeat([]int64{1}, 16)...)
	// A loop for which no booster helps, beside airways for them.
	hopeless := demandFor(sideBySide(), "rrrrrrrrrrrrrrrrrrrrrr--", append(make([]int64, 22), 1, 1)...)
	for _, c := range []struct {
		d    demand
		want outcome
	}{
		{with(twin(), 400, 100, 0, 1), listed([]int64{0, 1}, impl.OK)},
		{with(twin(), 400, 4, 0, 1), listed([]int64{0, 1}, impl.OK)},
		{with(twin(), 400, 3, 0, 1), nothing(impl.ErrFull)},
		{with(twin(), 400, 2, 0, 1), nothing(impl.ErrFull)},
		{with(twin(), 400, 1, 0, 1), nothing(impl.ErrFull)},
		{with(twin(), 399, 100, 0, 1), nothing(impl.ErrNotFound)},
		{with(twin(), 399, 4, 0, 1), nothing(impl.ErrNotFound)},
		{with(twin(), 399, 3, 0, 1), nothing(impl.ErrFull)},
		{with(twin(), 800, 2, 0, 1), listed([]int64{0}, impl.OK)},
		{with(twin(), 800, 1, 0, 1), nothing(impl.ErrFull)},
		{with(twin(), 20000, 2, 1), listed([]int64{1}, impl.OK)},
		{with(twin(), 400, 2, 0), nothing(impl.ErrNotFound)},
		{with(twin(), 400, 1), nothing(impl.ErrNotFound)},
		// None are needed.
		{with(eased, 400, 1, 0, 1), listed(nil, impl.OK)},
		{with(eased, 1, 1), listed(nil, impl.OK)},
		// Without a regulator a booster may push too much.
		{with(open, 400, 4, 0, 1), listed([]int64{0}, impl.OK)},
		{with(open, 399, 4, 0, 1), nothing(impl.ErrNotFound)},
		{with(open, 401, 4, 0, 1), nothing(impl.ErrNotFound)},
		{with(open, 200, 4, 0, 1), listed([]int64{0, 1}, impl.OK)},
		{with(open, 201, 4, 0, 1), nothing(impl.ErrNotFound)},
		{with(open, 400, 3, 1), listed([]int64{1}, impl.OK)},
		// A push may become more than MaxPush.
		{with(demand{m: loop(), drops: []int64{40000, 0}, push: []int64{20000, 0}, regulated: []bool{true, true}}, 20000, 2, 0), listed([]int64{0}, impl.OK)},
		{with(demand{m: loop(), drops: []int64{40001, 0}, push: []int64{20000, 0}, regulated: []bool{true, true}}, 20000, 2, 0), nothing(impl.ErrNotFound)},
		// Of 16 candidates there are 1, 16, 120, 560, 1820, 4368 and 8008 sets with 0 to 6 of them.
		{with(circle, 16, 2, all(16)...), listed([]int64{0}, impl.OK)},
		{with(circle, 8, 18, all(16)...), listed([]int64{0, 1}, impl.OK)},
		{with(circle, 8, 17, all(16)...), nothing(impl.ErrFull)},
		{with(circle, 4, 698, all(16)...), listed([]int64{0, 1, 2, 3}, impl.OK)},
		{with(circle, 4, 697, all(16)...), nothing(impl.ErrFull)},
		{with(circle, 3, 20000, all(16)...), listed([]int64{0, 1, 2, 3, 4, 5}, impl.OK)},
		{with(circle, 2, 20000, all(16)...), nothing(impl.ErrFull)},
		{with(circle, 2, 20000, 1, 3, 5, 7, 9, 11, 13, 15), listed([]int64{1, 3, 5, 7, 9, 11, 13, 15}, impl.OK)},
		{with(circle, 2, 256, 1, 3, 5, 7, 9, 11, 13, 15), listed([]int64{1, 3, 5, 7, 9, 11, 13, 15}, impl.OK)},
		{with(circle, 2, 255, 1, 3, 5, 7, 9, 11, 13, 15), nothing(impl.ErrFull)},
		{with(circle, 1, 20000, 1, 3, 5, 7, 9, 11, 13, 15), nothing(impl.ErrNotFound)},
		// Of 14 candidates there are 16384 sets, of 15 more than any budget has.
		{with(hopeless, 1, 16384, all(14)...), nothing(impl.ErrNotFound)},
		{with(hopeless, 1, 16383, all(14)...), nothing(impl.ErrFull)},
		{with(hopeless, 1, 20000, all(15)...), nothing(impl.ErrFull)},
		{with(hopeless, 1, 20000, all(22)...), nothing(impl.ErrFull)},
		{with(hopeless, 1, 20001, all(14)...), nothing(impl.ErrRange)},
		{with(hopeless, 1, 0, all(14)...), nothing(impl.ErrRange)},
		{with(demandFor(impl.Mine{Junctions: 1}, ""), 1, 1), listed(nil, impl.OK)},
		{with(demandFor(impl.Mine{Junctions: 1}, ""), 1, 1, 0), nothing(impl.ErrRange)},
	} {
		expectOutcome(t, boosters(c.d), c.want, "FewestBoosters", c.d)
	}
}

func TestBoosterPower(t *testing.T) {
	for _, d := range randomDemands() {
		want := int64(0)
		for _, k := range d.boosted {
			want += quotient(d.pressure*max(d.powered[k], -d.powered[k]), 100)
		}
		expect(t, answerOf(impl.BoosterPower(d.powered, d.boosted, d.pressure)), answer{want, impl.OK}, "BoosterPower", d.powered, d.boosted, d.pressure)
	}
	most := slices.Repeat([]int64{-100000}, 24)
	for _, c := range []struct {
		flows, airways []int64
		pressure       int64
		want           answer
	}{
		{[]int64{1000, -500}, []int64{0, 1}, 200, answer{3000, impl.OK}},
		{[]int64{1000, -500}, []int64{1}, 200, answer{1000, impl.OK}},
		{[]int64{1000, -500}, nil, 200, answer{0, impl.OK}},
		// Each power is rounded for itself, a half upwards.
		{[]int64{50, -50, 49}, []int64{0}, 1, answer{1, impl.OK}},
		{[]int64{50, -50, 49}, []int64{0, 1, 2}, 1, answer{2, impl.OK}},
		{[]int64{49, 49, 49}, []int64{0, 1, 2}, 1, answer{0, impl.OK}},
		{[]int64{51, 51, 51}, []int64{0, 1, 2}, 1, answer{3, impl.OK}},
		{[]int64{0, 7}, []int64{0}, 20000, answer{0, impl.OK}},
		{nil, nil, 1, answer{0, impl.OK}},
		{nil, []int64{}, 20000, answer{0, impl.OK}},
		{nil, []int64{0}, 1, failed(impl.ErrRange)},
		{nil, nil, 0, failed(impl.ErrRange)},
		{nil, nil, 20001, failed(impl.ErrRange)},
		{most, all(24), 20000, answer{480000000, impl.OK}},
		{append(slices.Clone(most), 0), all(24), 20000, failed(impl.ErrRange)},
		{append(slices.Clone(most), 0), nil, 20000, failed(impl.ErrRange)},
		{most, all(25), 20000, failed(impl.ErrRange)},
		{most, []int64{24}, 20000, failed(impl.ErrRange)},
		{[]int64{1000}, []int64{1}, 200, failed(impl.ErrRange)},
		{[]int64{1000, 1}, []int64{1, 0}, 200, failed(impl.ErrRange)},
		{[]int64{1000, 1}, []int64{1, 1}, 200, failed(impl.ErrRange)},
		{[]int64{1000, 1}, []int64{-1, 1}, 200, failed(impl.ErrRange)},
		// A flow that is none counts also where there is no booster.
		{[]int64{1000, 100001}, []int64{0}, 200, failed(impl.ErrRange)},
		{[]int64{-100001, 5}, []int64{1}, 200, failed(impl.ErrRange)},
	} {
		expect(t, answerOf(impl.BoosterPower(c.flows, c.airways, c.pressure)), c.want, "BoosterPower", c)
	}
}

func TestDropsFor(t *testing.T) {
	for _, d := range randomDemands() {
		var want []int64
		for k, flow := range d.flows {
			want = append(want, wantDrop(d.resistances[k], flow))
		}
		expectOutcome(t, listed(impl.DropsFor(d.m, d.resistances, d.flows)), listed(want, impl.OK), "DropsFor", d)
	}
	for _, c := range []struct {
		m                  impl.Mine
		resistances, flows []int64
		want               outcome
	}{
		{loop(), []int64{10000, 100}, []int64{10000, -10000}, listed([]int64{100, -1}, impl.OK)},
		{loop(), []int64{1000000, 1000000}, []int64{100000, -100000}, listed([]int64{1000000, -1000000}, impl.OK)},
		{loop(), []int64{50, 49}, []int64{-10000, -10000}, listed([]int64{-1, 0}, impl.OK)},
		{loop(), []int64{1, 1}, []int64{0, 0}, listed([]int64{0, 0}, impl.OK)},
		{impl.Mine{Junctions: 1}, nil, nil, nothing(impl.OK)},
		{impl.Mine{Junctions: 1}, []int64{1}, nil, nothing(impl.ErrRange)},
		{impl.Mine{Junctions: 1}, nil, []int64{1}, nothing(impl.ErrRange)},
		{loop(), []int64{1, 1}, []int64{0}, nothing(impl.ErrRange)},
		{loop(), []int64{1}, []int64{0, 0}, nothing(impl.ErrRange)},
		{loop(), []int64{0, 1}, []int64{0, 0}, nothing(impl.ErrRange)},
		{impl.Mine{}, nil, nil, nothing(impl.ErrInvalid)},
		{impl.Mine{}, []int64{0}, nil, nothing(impl.ErrInvalid)},
	} {
		expectOutcome(t, listed(impl.DropsFor(c.m, c.resistances, c.flows)), c.want, "DropsFor", c)
	}
}

// boosterResults returns what all functions of chapter 12 return.
func boosterResults(d demand) []any {
	all := []any{solved(impl.WrongLoop(d.m, d.drops, d.push, d.regulated))}
	outcomes := fitting(d)
	for _, name := range []string{"DropsFor", "PotentialsOf", "RegulatorDrops", "LeastPush", "FewestBoosters", "BoosterPower"} {
		all = append(all, outcomes[name])
	}
	return all
}

// wildDemands returns demands with arguments far beyond what any of them may be.
func wildDemands() []demand {
	wild := impl.Mine{Junctions: math.MaxInt64, Airways: make([]impl.Airway, 1000)}
	long := slices.Repeat([]int64{math.MinInt64, math.MaxInt64}, 5000)
	list := []demand{
		{}, {m: wild, resistances: long, flows: long, drops: long, push: long, regulated: make([]bool, 10000), candidates: long, powered: long, boosted: long, airway: 999, pressure: 1, budget: 1},
		{m: loop(), powered: make([]int64, 100000), boosted: long, pressure: 1},
	}
	for _, n := range edgeNumbers() {
		list = append(list, demand{m: impl.Mine{Junctions: n}, candidates: []int64{n}, boosted: []int64{n}, airway: n, pressure: n, budget: n})
		for _, m := range []impl.Mine{loop(), grid(), wild} {
			count := len(m.Airways)
			zeros, numbers := make([]int64, count), slices.Repeat([]int64{n}, count)
			regulated := slices.Repeat([]bool{true}, count)
			list = append(list, demand{m: m, resistances: numbers, flows: zeros, drops: zeros, push: numbers, regulated: regulated, candidates: []int64{0, n}, powered: numbers, boosted: []int64{0, 1}, airway: n, pressure: 1, budget: 5})
			list = append(list, demand{m: m, resistances: zeros, flows: numbers, drops: numbers, push: zeros, regulated: regulated, candidates: []int64{0, 1}, powered: zeros, boosted: []int64{n}, airway: 1, pressure: n, budget: n})
			list = append(list, demand{m: m, drops: zeros, push: zeros, regulated: make([]bool, count), candidates: []int64{n}, airway: n, pressure: 5, budget: n})
		}
	}
	return list
}

func manyDemands() []demand {
	list := append(append(wildDemands(), goodFitting()...), goodFailing()...)
	for i, d := range randomDemands() {
		if i%5 == 0 {
			list = append(list, d)
		}
	}
	return list
}

func TestBoostersReturnTheSameForAllArguments(t *testing.T) {
	demands := manyDemands()
	for _, good := range append(goodFitting(), goodFailing()...) {
		demands = append(demands, faulty(good, faultsOfDemand(good))...)
	}
	for _, d := range demands {
		twice(t, "the functions of boosters", func() []any { return boosterResults(d) })
	}
	empty := []int64{}
	for _, m := range []impl.Mine{{}, {Junctions: 1}, {Junctions: 1, Airways: []impl.Airway{}}, {Junctions: 16}, loop()} {
		a := demand{m: m, pressure: 1, budget: 1}
		b := demand{m: m, resistances: empty, flows: empty, drops: empty, push: empty, regulated: []bool{}, candidates: empty, powered: empty, boosted: empty, pressure: 1, budget: 1}
		if one, two := fmt.Sprint(boosterResults(a)), fmt.Sprint(boosterResults(b)); one != two {
			t.Errorf("no numbers in %v have %v as nil, and else %v", m, one, two)
		}
	}
}

func TestBoostersModifyNoArgument(t *testing.T) {
	for _, d := range manyDemands() {
		var rooms [][]int64
		for _, list := range []*[]int64{&d.resistances, &d.flows, &d.drops, &d.push, &d.candidates, &d.powered, &d.boosted} {
			used, whole := roomyList(*list, -77)
			*list = used
			rooms = append(rooms, whole)
		}
		airways, allAirways := roomyList(d.m.Airways, airwayBetween(77, 1, 0))
		regulated, allRegulated := roomyList(d.regulated, true)
		d.m.Airways, d.regulated = airways, regulated
		before := fmt.Sprint(rooms, allAirways, allRegulated)
		boosterResults(d)
		if after := fmt.Sprint(rooms, allAirways, allRegulated); after != before {
			t.Errorf("%.500s becomes %.500s", before, after)
		}
	}
}

func TestBoostersReturnNewMemory(t *testing.T) {
	for _, d := range manyDemands() {
		before, want := fmt.Sprint(d), boosterResults(d)
		spoil(solved(impl.WrongLoop(d.m, d.drops, d.push, d.regulated)).list, 77)
		for _, o := range fitting(d) {
			spoil(o.list, 77)
		}
		if fmt.Sprint(d) != before || !reflect.DeepEqual(boosterResults(d), want) {
			t.Errorf("results for %.500s share memory", before)
		}
	}
}
