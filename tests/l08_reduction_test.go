package tests

import (
	"fmt"
	"math"
	"math/big"
	"math/rand"
	"slices"
	"testing"

	"loop.example/g01021/impl"
)

// The declarations of chapter 8, which must keep their types.
var (
	_ func([]int64) (int64, int64)                                 = impl.SeriesResistance
	_ func(int64) (int64, int64)                                   = impl.ConductanceOf
	_ func([]int64) (int64, int64)                                 = impl.ParallelResistance
	_ func([]int64, int64) ([]int64, int64)                        = impl.SplitFlow
	_ func([]int64, int64) (int64, int64)                          = impl.SplitError
	_ func(int64, int64) (int64, int64)                            = impl.OtherResistance
	_ func(int64, int64) (int64, int64)                            = impl.AirwaysFor
	_ func(int64) (int64, int64)                                   = impl.OrificeOf
	_ func(impl.Mine, []int64, int64, int64) (int64, int64, int64) = impl.ReduceMine
)

// rooted returns the root of a quotient, both rounded down.
func rooted(top, bottom int64) int64 { return new(big.Int).Sqrt(big.NewInt(top / bottom)).Int64() }

func wantConductance(resistance int64) int64 { return rooted(10000000000000000, resistance) }

func wantConductances(list []int64) int64 {
	sum := int64(0)
	for _, resistance := range list {
		sum += wantConductance(resistance)
	}
	return sum
}

func wantSideBySide(list ...int64) int64 {
	sum := big.NewInt(wantConductances(list))
	return max(1, exactNearest(big.NewInt(10000000000000000), sum.Mul(sum, sum)).Int64())
}

func wantSplit(list []int64, flow int64) []int64 {
	var parts []int64
	for i := range list {
		parts = append(parts, quotient(flow*wantConductances(list[:i+1]), wantConductances(list))-quotient(flow*wantConductances(list[:i]), wantConductances(list)))
	}
	return parts
}

// validResistances returns lists of resistances at each limit, ordinary ones, and many at random.
func validResistances() [][]int64 {
	lists := [][]int64{
		{1}, {1000000}, {999999}, {7}, {1, 1000000}, {1000000, 1}, {400, 400}, {100, 200}, {100, 400}, {500000, 500000}, {500000, 500001}, {999999, 1}, {1, 1, 1, 1}, {63240, 63240, 7},
		slices.Repeat([]int64{1}, 24), slices.Repeat([]int64{1000000}, 24), slices.Repeat([]int64{1, 1000000}, 12), slices.Repeat([]int64{41666}, 24), slices.Repeat([]int64{41667}, 24),
	}
	random := rand.New(rand.NewSource(8))
	for count := range 24 {
		for range 12 {
			lists = append(lists, anyNumbers(random, count+1, 1, 1000000))
		}
	}
	return lists
}

// invalidResistances returns lists each of which breaks one rule.
func invalidResistances() [][]int64 {
	lists := [][]int64{nil, {}, slices.Repeat([]int64{1}, 25), slices.Repeat([]int64{1000000}, 1000)}
	for _, n := range around(1000000) {
		if !from(1, 1000000, n) {
			lists = append(lists, []int64{n}, []int64{n, 5}, []int64{5, n}, append(slices.Repeat([]int64{1}, 23), n))
		}
	}
	return lists
}

func TestSeriesResistance(t *testing.T) {
	for _, list := range validResistances() {
		want := answer{0, impl.OK}
		for _, n := range list {
			want.value += n
		}
		if want.value > 1000000 {
			want = failed(impl.ErrState)
		}
		expect(t, answerOf(impl.SeriesResistance(list)), want, "SeriesResistance", list)
	}
	for _, list := range invalidResistances() {
		expect(t, answerOf(impl.SeriesResistance(list)), failed(impl.ErrRange), "SeriesResistance", list)
	}
	for _, c := range []struct {
		list []int64
		want answer
	}{
		{[]int64{100, 200}, answer{300, impl.OK}},
		{[]int64{7}, answer{7, impl.OK}},
		{[]int64{1000000}, answer{1000000, impl.OK}},
		{[]int64{600000, 400000}, answer{1000000, impl.OK}},
		{[]int64{600000, 400001}, failed(impl.ErrState)},
		{[]int64{1000000, 1}, failed(impl.ErrState)},
		// A number that is no resistance comes before a sum that is none.
		{[]int64{1000000, 1000000, 0}, failed(impl.ErrRange)},
		{append(slices.Repeat([]int64{1000000}, 23), 1), failed(impl.ErrState)},
		{append(slices.Repeat([]int64{1000000}, 24), 1), failed(impl.ErrRange)},
	} {
		expect(t, answerOf(impl.SeriesResistance(c.list)), c.want, "SeriesResistance", c.list)
	}
}

func TestConductanceOf(t *testing.T) {
	for _, n := range append(resistances(), 2, 3, 100, 101, 1000001) {
		want := failed(impl.ErrRange)
		if from(1, 1000000, n) {
			want = answer{wantConductance(n), impl.OK}
		}
		expect(t, answerOf(impl.ConductanceOf(n)), want, "ConductanceOf", n)
	}
	for n := int64(1); n <= 1000000; n += 37 {
		got, code := impl.ConductanceOf(n)
		if code != impl.OK || got*got*n > 10000000000000000 || (got+1)*(got+1) <= 10000000000000000/n {
			t.Errorf("ConductanceOf(%d) = %d, %d", n, got, code)
		}
	}
	for n, want := range map[int64]int64{1: 100000000, 4: 50000000, 100: 10000000, 1000000: 100000, 999999: 100000, 2: 70710678, 3: 57735026} {
		expect(t, answerOf(impl.ConductanceOf(n)), answer{want, impl.OK}, "ConductanceOf", n)
	}
}

// TestSideBySideIsNoMore covers the first part of P9.
func TestSideBySideIsNoMore(t *testing.T) {
	for _, list := range validResistances() {
		got := answerOf(impl.ParallelResistance(list))
		expect(t, got, answer{wantSideBySide(list...), impl.OK}, "ParallelResistance", list)
		if len(list) > 1 && got.value > slices.Min(list) || got.value < 1 {
			t.Errorf("ParallelResistance(%v) = %v", list, got)
		}
	}
	// The airway with the most resistance takes the least from the other one.
	for n := int64(1); n <= 1000000; n += 13 {
		if got := answerOf(impl.ParallelResistance([]int64{n, 1000000})); got.code != impl.OK || got.value > n {
			t.Errorf("beside the greatest resistance %d becomes %v", n, got)
		}
	}
	for _, list := range invalidResistances() {
		expect(t, answerOf(impl.ParallelResistance(list)), failed(impl.ErrRange), "ParallelResistance", list)
	}
	for _, c := range []struct {
		list []int64
		want int64
	}{
		// The document's example.
		{[]int64{400, 400}, 100},
		{[]int64{400}, 400},
		{[]int64{900, 900, 900}, 100},
		{[]int64{100, 400}, 44},
		{[]int64{1000000, 1000000}, 250000},
		{[]int64{1, 1}, 1},
		{slices.Repeat([]int64{1}, 24), 1},
		{slices.Repeat([]int64{1000000}, 24), 1736},
		// 2 is nearer than 1 to two quarters of 6, which are a half more than 1; the roots are rounded down before.
		{[]int64{6, 6}, 2},
		{[]int64{5, 5}, 1},
		// A root that is rounded down makes more resistance than there is, if an airway stands alone.
		{[]int64{999999}, 1000000},
	} {
		expect(t, answerOf(impl.ParallelResistance(c.list)), answer{c.want, impl.OK}, "ParallelResistance", c.list)
	}
}

// TestPartsAddUp covers the second part of P9.
func TestPartsAddUp(t *testing.T) {
	for _, list := range validResistances() {
		for _, flow := range append(flows(), 1, -1, 2, -2, 3, 100000, -100000) {
			got := listed(impl.SplitFlow(list, flow))
			if !from(-100000, 100000, flow) {
				expectOutcome(t, got, nothing(impl.ErrRange), "SplitFlow", list, flow)
				expect(t, answerOf(impl.SplitError(list, flow)), failed(impl.ErrRange), "SplitError", list, flow)
				continue
			}
			want := wantSplit(list, flow)
			expectOutcome(t, got, listed(want, impl.OK), "SplitFlow", list, flow)
			sum, most, least := int64(0), int64(math.MinInt64), int64(math.MaxInt64)
			for i, part := range got.list {
				sum += part
				most, least = max(most, wantDrop(list[i], want[i])), min(least, wantDrop(list[i], want[i]))
			}
			if sum != flow || len(got.list) != len(list) {
				t.Errorf("SplitFlow(%v, %d) = %v", list, flow, got)
			}
			expect(t, answerOf(impl.SplitError(list, flow)), answer{most - least, impl.OK}, "SplitError", list, flow)
		}
	}
	for _, list := range invalidResistances() {
		for _, flow := range flows() {
			expectOutcome(t, listed(impl.SplitFlow(list, flow)), nothing(impl.ErrRange), "SplitFlow", list, flow)
			expect(t, answerOf(impl.SplitError(list, flow)), failed(impl.ErrRange), "SplitError", list, flow)
		}
	}
}

func TestSplitsByHand(t *testing.T) {
	cases := []struct {
		list   []int64
		flow   int64
		parts  []int64
		spread int64
	}{
		{[]int64{100, 400}, 300, []int64{200, 100}, 0},
		{[]int64{400, 100}, -300, []int64{-100, -200}, 0},
		{[]int64{7}, 12345, []int64{12345}, 0},
		{[]int64{400, 400}, 0, []int64{0, 0}, 0},
		// A half is rounded away from 0: the first part has it.
		{[]int64{400, 400}, 301, []int64{151, 150}, 0},
		{[]int64{400, 400}, -301, []int64{-151, -150}, 0},
		// The sums are 1/3, 2/3 and 1, and 2/3, 4/3 and 2.
		{[]int64{9, 9, 9}, 1, []int64{0, 1, 0}, 0},
		{[]int64{9, 9, 9}, 2, []int64{1, 0, 1}, 0},
		{[]int64{9, 9, 9}, -2, []int64{-1, 0, -1}, 0},
		{[]int64{9, 9, 9, 9}, 2, []int64{1, 0, 1, 0}, 0},
		// With 501 and 500 the drops are 25.1001 and 25, which are rounded to the same; with 5001 and 5000 they are 2501.0001 and 2500.
		{[]int64{1000000, 1000000}, 1001, []int64{501, 500}, 0},
		{[]int64{1000000, 1000000}, 10001, []int64{5001, 5000}, 1},
		{[]int64{1000000, 1000000}, -10001, []int64{-5001, -5000}, 1},
		{[]int64{1000000, 1000000}, 99999, []int64{50000, 49999}, 10},
		{[]int64{1000000, 1000000}, 100000, []int64{50000, 50000}, 0},
	}
	for _, c := range cases {
		expectOutcome(t, listed(impl.SplitFlow(c.list, c.flow)), listed(c.parts, impl.OK), "SplitFlow", c.list, c.flow)
		expect(t, answerOf(impl.SplitError(c.list, c.flow)), answer{c.spread, impl.OK}, "SplitError", c.list, c.flow)
	}
}

func TestOtherResistance(t *testing.T) {
	random := rand.New(rand.NewSource(88))
	numbers := append(resistances(), 100, 101, 397, 400, 396, 44, 1736, 1737)
	numbers = append(numbers, anyNumbers(random, 40, 1, 1000000)...)
	found := 0
	for _, part := range numbers {
		for _, both := range append(numbers, part-1, part, part*99/100, part/2+1) {
			got := answerOf(impl.OtherResistance(part, both))
			if !from(1, 1000000, part, both) {
				expect(t, got, failed(impl.ErrRange), "OtherResistance", part, both)
				continue
			}
			if wantSideBySide(part, 1000000) < both {
				expect(t, got, failed(impl.ErrNotFound), "OtherResistance", part, both)
				continue
			}
			found++
			if got.code != impl.OK || !from(1, 1000000, got.value) || wantSideBySide(part, got.value) < both || got.value > 1 && wantSideBySide(part, got.value-1) >= both {
				t.Errorf("OtherResistance(%d, %d) = %v", part, both, got)
			}
		}
	}
	if found < 500 {
		t.Errorf("only %d resistances are found", found)
	}
	for _, c := range []struct {
		part, both int64
		want       answer
	}{
		// 99.5 is rounded to 100, so a little less than 400 is enough.
		{400, 100, answer{397, impl.OK}},
		{100, 100, failed(impl.ErrNotFound)},
		{100, 99, failed(impl.ErrNotFound)},
		{100, 98, answer{616173, impl.OK}},
		{1, 1, answer{1, impl.OK}},
		{1, 2, failed(impl.ErrNotFound)},
		{1000000, 1, answer{1, impl.OK}},
		{1000000, 2, answer{2, impl.OK}},
		{1000000, 250000, answer{999981, impl.OK}},
		{1000000, 250001, failed(impl.ErrNotFound)},
		{1000000, 1000000, failed(impl.ErrNotFound)},
	} {
		expect(t, answerOf(impl.OtherResistance(c.part, c.both)), c.want, "OtherResistance", c.part, c.both)
	}
}

func TestAirwaysFor(t *testing.T) {
	random := rand.New(rand.NewSource(80))
	numbers := append(append(resistances(), 100, 400, 44, 1735, 1736, 1737), anyNumbers(random, 40, 1, 1000000)...)
	for _, each := range numbers {
		for _, both := range append(numbers, each-1, each, each/4, each/9, each/100, each/576, each/576+1) {
			want := failed(impl.ErrRange)
			if from(1, 1000000, each, both) {
				want = failed(impl.ErrNotFound)
				for count := 24; count > 0; count-- {
					if wantSideBySide(slices.Repeat([]int64{each}, count)...) <= both {
						want = answer{int64(count), impl.OK}
					}
				}
			}
			expect(t, answerOf(impl.AirwaysFor(each, both)), want, "AirwaysFor", each, both)
		}
	}
	for _, c := range []struct {
		each, both int64
		want       answer
	}{
		{400, 100, answer{2, impl.OK}},
		{400, 99, answer{3, impl.OK}},
		{400, 44, answer{3, impl.OK}},
		{400, 400, answer{1, impl.OK}},
		{400, 399, answer{2, impl.OK}},
		{1000000, 1736, answer{24, impl.OK}},
		{1000000, 1735, failed(impl.ErrNotFound)},
		{1000000, 1, failed(impl.ErrNotFound)},
		{1, 1, answer{1, impl.OK}},
		// 5 and 6 with one more are 1.25 and 1.5, and two more make 0.67 of 6.
		{5, 1, answer{2, impl.OK}},
		{6, 1, answer{3, impl.OK}},
	} {
		expect(t, answerOf(impl.AirwaysFor(c.each, c.both)), c.want, "AirwaysFor", c.each, c.both)
	}
}

func TestOrificeOf(t *testing.T) {
	for _, n := range append(resistances(), 2, 3, 14160, 14161, 14162) {
		want := failed(impl.ErrRange)
		if from(1, 1000000, n) {
			want = answer{rooted(14161000000, n), impl.OK}
		}
		expect(t, answerOf(impl.OrificeOf(n)), want, "OrificeOf", n)
	}
	for n, want := range map[int64]int64{1: 119000, 2: 84145, 14161: 1000, 14162: 999, 141610: 316, 1000000: 119} {
		expect(t, answerOf(impl.OrificeOf(n)), answer{want, impl.OK}, "OrificeOf", n)
	}
}

// reduction is what ReduceMine returns.
type reduction struct{ resistance, steps, code int64 }

func reductionOf(resistance, steps, code int64) reduction { return reduction{resistance, steps, code} }

func expectReduction(t *testing.T, got, want reduction, name string, args ...any) {
	t.Helper()
	if got != want {
		t.Errorf("%s of %v: got %v, want %v", name, args, got, want)
	}
}

// wire is an airway in the model of reductions.
type wire struct{ from, to, resistance int64 }

func (w wire) at(junction int64) bool { return w.from == junction || w.to == junction }

func (w wire) other(junction int64) int64 {
	if w.from == junction {
		return w.to
	}
	return w.from
}

// without returns wires without one of them, and with another one in the place of a second one.
func without(wires []wire, gone, changed int, with wire) []wire {
	var list []wire
	for i, w := range wires {
		if i == changed {
			list = append(list, with)
		} else if i != gone {
			list = append(list, w)
		}
	}
	return list
}

func wiresAt(wires []wire, junction int64) []int {
	var list []int
	for i, w := range wires {
		if w.at(junction) {
			list = append(list, i)
		}
	}
	return list
}

// reduced takes the first step that is possible, and reports whether there is one.
func reduced(wires []wire, from, to int64) ([]wire, bool) {
	for i, w := range wires {
		for _, end := range []int64{w.from, w.to} {
			if w.from == w.to || end != from && end != to && len(wiresAt(wires, end)) == 1 {
				return without(wires, i, -1, wire{}), true
			}
		}
	}
	for i, v := range wires {
		for k, w := range wires {
			if i < k && (v.from == w.from && v.to == w.to || v.from == w.to && v.to == w.from) {
				return without(wires, k, i, wire{v.from, v.to, wantSideBySide(v.resistance, w.resistance)}), true
			}
		}
	}
	for junction := range int64(16) {
		if at := wiresAt(wires, junction); junction != from && junction != to && len(at) == 2 {
			v, w := wires[at[0]], wires[at[1]]
			return without(wires, at[1], at[0], wire{v.other(junction), w.other(junction), v.resistance + w.resistance}), true
		}
	}
	return wires, false
}

func wantReduction(m impl.Mine, resistances []int64, from, to int64) reduction {
	var wires []wire
	for i, a := range m.Airways {
		wires = append(wires, wire{a.From, a.To, resistances[i]})
	}
	for steps := int64(0); ; steps++ {
		for _, w := range wires {
			if w.resistance > 1000000 {
				return reduction{code: impl.ErrFull}
			}
		}
		next, ok := reduced(wires, from, to)
		if !ok && len(wires) == 1 && wires[0].at(from) && wires[0].at(to) {
			return reduction{wires[0].resistance, steps, impl.OK}
		}
		if !ok {
			return reduction{code: impl.ErrState}
		}
		wires = next
	}
}

func TestReduceMine(t *testing.T) {
	codes := map[int64]int{}
	for _, s := range randomSettings() {
		for from := range s.m.Junctions {
			for to := range s.m.Junctions {
				got := reductionOf(impl.ReduceMine(s.m, s.resistances, from, to))
				want := reduction{code: impl.ErrRange}
				if from != to {
					want = wantReduction(s.m, s.resistances, from, to)
					codes[want.code]++
				}
				expectReduction(t, got, want, "ReduceMine", s.m, s.resistances, from, to)
				if back := reductionOf(impl.ReduceMine(s.m, s.resistances, to, from)); back != got {
					t.Errorf("ReduceMine of %v and %v is %v between %d and %d, and %v back", s.m, s.resistances, got, from, to, back)
				}
			}
		}
	}
	if codes[impl.OK] < 1000 || codes[impl.ErrFull] < 100 || codes[impl.ErrState] < 1000 {
		t.Errorf("the codes are %v", codes)
	}
}

// allButOne returns airways between all pairs of some junctions but the first two.
func allButOne(first, last int64) [][2]int64 {
	var ends [][2]int64
	for a := first; a <= last; a++ {
		for b := a + 1; b <= last; b++ {
			if a != first || b != first+1 {
				ends = append(ends, [2]int64{a, b})
			}
		}
	}
	return ends
}

func TestReductionsByHand(t *testing.T) {
	pair := mineOf(3, [2]int64{0, 1}, [2]int64{0, 1}, [2]int64{1, 2})
	ring := mineOf(5, [2]int64{0, 1}, [2]int64{2, 3}, [2]int64{3, 4}, [2]int64{4, 2})
	bridge := mineOf(4, allButOne(0, 3)...)
	apart := mineOf(6, append([][2]int64{{0, 1}, {2, 3}}, allButOne(2, 5)...)...)
	cases := []struct {
		m           impl.Mine
		resistances []int64
		from, to    int64
		want        reduction
	}{
		// The document's example.
		{mineOf(2, [2]int64{0, 1}, [2]int64{1, 0}), []int64{400, 400}, 0, 1, reduction{100, 1, impl.OK}},
		{mineOf(2, [2]int64{0, 1}), []int64{400}, 0, 1, reduction{400, 0, impl.OK}},
		{mineOf(2, [2]int64{0, 1}), []int64{1000000}, 1, 0, reduction{1000000, 0, impl.OK}},
		{pair, []int64{400, 400, 50}, 0, 2, reduction{150, 2, impl.OK}},
		// The third airway is a dead end, and removed at first.
		{pair, []int64{400, 400, 50}, 0, 1, reduction{100, 2, impl.OK}},
		// All others are: one at a time, and the pair becomes one before.
		{pair, []int64{400, 400, 50}, 1, 2, reduction{50, 2, impl.OK}},
		{line(), slices.Repeat([]int64{7}, 15), 0, 15, reduction{105, 14, impl.OK}},
		{line(), slices.Repeat([]int64{7}, 15), 15, 0, reduction{105, 14, impl.OK}},
		{line(), slices.Repeat([]int64{7}, 15), 4, 6, reduction{14, 14, impl.OK}},
		{line(), slices.Repeat([]int64{7}, 15), 4, 5, reduction{7, 14, impl.OK}},
		{sideBySide(), slices.Repeat([]int64{576 * 400}, 24), 0, 1, reduction{400, 23, impl.OK}},
		// Of dead ends nothing is added, be they as long as they may.
		{line(), slices.Repeat([]int64{1000000}, 15), 7, 8, reduction{1000000, 14, impl.OK}},
		{line(), slices.Repeat([]int64{66666}, 15), 0, 15, reduction{999990, 14, impl.OK}},
		{line(), slices.Repeat([]int64{66667}, 15), 0, 15, reduction{code: impl.ErrFull}},
		// Airways apart from both junctions: two of them become one, this and the third one become one, and this is removed.
		{ring, []int64{5, 1, 1, 1}, 0, 1, reduction{5, 3, impl.OK}},
		{ring, []int64{5, 1000000, 500000, 500000}, 0, 1, reduction{code: impl.ErrFull}},
		// The least junction is 2, where the last one of these meets the first.
		{ring, []int64{5, 500000, 1000000, 500000}, 0, 1, reduction{5, 3, impl.OK}},
		{ring, []int64{5, 500000, 1000000, 500001}, 0, 1, reduction{code: impl.ErrFull}},
		{ring, []int64{5, 500000, 1000000, 500000}, 2, 3, reduction{code: impl.ErrFull}},
		{ring, []int64{5, 1000000, 500000, 500000}, 2, 3, reduction{250000, 3, impl.OK}},
		{ring, []int64{5, 1000000, 500000, 500001}, 2, 3, reduction{code: impl.ErrFull}},
		// No way, no airway, and airways that no step reduces.
		{ring, []int64{5, 1, 1, 1}, 0, 2, reduction{code: impl.ErrState}},
		{mineOf(3, [2]int64{0, 1}), []int64{5}, 0, 2, reduction{code: impl.ErrState}},
		{mineOf(3, [2]int64{0, 1}), []int64{5}, 1, 2, reduction{code: impl.ErrState}},
		{impl.Mine{Junctions: 2}, nil, 0, 1, reduction{code: impl.ErrState}},
		{bridge, []int64{1, 2, 3, 4, 5}, 0, 1, reduction{code: impl.ErrState}},
		{apart, slices.Repeat([]int64{7}, 7), 0, 1, reduction{code: impl.ErrState}},
		// The same between other junctions: 400 is beside 25, and 16 is beside 16.
		{bridge, []int64{100, 300, 7, 9, 25}, 2, 3, reduction{4, 4, impl.OK}},
		// A sum that is too great comes before the airways that are left.
		{mineOf(7, append([][2]int64{{0, 4}, {4, 1}}, allButOne(0, 3)...)...), []int64{500000, 500000, 7, 7, 7, 7, 7}, 0, 1, reduction{code: impl.ErrState}},
		{mineOf(7, append([][2]int64{{0, 4}, {4, 1}}, allButOne(0, 3)...)...), []int64{500000, 500001, 7, 7, 7, 7, 7}, 0, 1, reduction{code: impl.ErrFull}},
	}
	for _, c := range cases {
		expectReduction(t, reductionOf(impl.ReduceMine(c.m, c.resistances, c.from, c.to)), c.want, "ReduceMine", c)
	}
}

func TestErrorsOfReduceMine(t *testing.T) {
	for _, m := range invalidMines() {
		for _, j := range []int64{0, 1, -1, 16} {
			got := reductionOf(impl.ReduceMine(m, slices.Repeat([]int64{7}, len(m.Airways)), 0, j))
			expectReduction(t, got, reduction{code: impl.ErrInvalid}, "ReduceMine", m, j)
			expectReduction(t, reductionOf(impl.ReduceMine(m, nil, j, 0)), reduction{code: impl.ErrInvalid}, "ReduceMine", m, j)
		}
	}
	none := reduction{code: impl.ErrRange}
	for _, m := range []impl.Mine{{Junctions: 1}, {Junctions: 2}, loop(), triangle(), line(), grid()} {
		good := slices.Repeat([]int64{1000000}, len(m.Airways))
		last := m.Junctions - 1
		for _, list := range wrongLists(good, 1, 1000000) {
			expectReduction(t, reductionOf(impl.ReduceMine(m, list, 0, last)), none, "ReduceMine", m, list, 0, last)
		}
		for _, j := range around(m.Junctions) {
			if !from(0, last, j) {
				expectReduction(t, reductionOf(impl.ReduceMine(m, good, 0, j)), none, "ReduceMine", m, good, 0, j)
				expectReduction(t, reductionOf(impl.ReduceMine(m, good, j, last)), none, "ReduceMine", m, good, j, last)
			}
			expectReduction(t, reductionOf(impl.ReduceMine(m, good, j, j)), none, "ReduceMine", m, good, j, j)
		}
	}
}

// reductionResults returns what all functions of chapter 8 return.
func reductionResults(m impl.Mine, list []int64, a, b int64) []any {
	return []any{
		answerOf(impl.SeriesResistance(list)), answerOf(impl.ConductanceOf(a)), answerOf(impl.ParallelResistance(list)), listed(impl.SplitFlow(list, a)),
		answerOf(impl.SplitError(list, a)), answerOf(impl.OtherResistance(a, b)), answerOf(impl.AirwaysFor(a, b)), answerOf(impl.OrificeOf(a)),
		reductionOf(impl.ReduceMine(m, list, a, b)),
	}
}

func TestReductionsReturnTheSameForAllArguments(t *testing.T) {
	wild := impl.Mine{Junctions: math.MaxInt64, Airways: make([]impl.Airway, 1000)}
	long := slices.Repeat([]int64{math.MinInt64, math.MaxInt64, 7}, 4000)
	for _, m := range []impl.Mine{{}, loop(), grid(), wild, {Junctions: 16}} {
		lists := append(invalidResistances(), long, slices.Repeat([]int64{1}, len(m.Airways)), slices.Repeat([]int64{1000000}, len(m.Airways)))
		for _, list := range lists {
			for _, a := range edgeNumbers() {
				for _, b := range []int64{0, 1, 2, 15, 1000000, a, -a} {
					twice(t, "the functions of reductions", func() []any { return reductionResults(m, list, a, b) })
				}
			}
		}
	}
	for _, list := range validResistances() {
		twice(t, "the functions of reductions", func() []any { return reductionResults(fork(), list, 0, 1) })
	}
	for _, m := range []impl.Mine{{}, {Junctions: 2}, loop()} {
		if a, b := fmt.Sprint(reductionResults(m, nil, 0, 1)), fmt.Sprint(reductionResults(m, []int64{}, 0, 1)); a != b {
			t.Errorf("no resistances have %v as nil, and else %v", a, b)
		}
	}
}

func TestReductionsModifyNoArgument(t *testing.T) {
	for _, list := range append(validResistances(), invalidResistances()...) {
		if !untouched(list, -77, func(list []int64) { reductionResults(fork(), list, 5, 7) }) {
			t.Errorf("%v or what lies behind it is changed", list)
		}
	}
	for _, s := range randomSettings() {
		used, whole := roomyList(s.m.Airways, airwayBetween(77, 1, 0))
		before, beforeList := slices.Clone(whole), slices.Clone(s.resistances)
		m := impl.Mine{Junctions: s.m.Junctions, Airways: used}
		for to := range m.Junctions {
			if !untouched(s.resistances, -77, func(list []int64) { impl.ReduceMine(m, list, 0, to) }) {
				t.Errorf("%v or what lies behind it is changed", beforeList)
			}
		}
		if !slices.Equal(whole, before) {
			t.Errorf("%v becomes %v", before, whole)
		}
	}
}

func TestReductionsReturnNewMemory(t *testing.T) {
	for _, list := range validResistances() {
		before, want := slices.Clone(list), fmt.Sprint(impl.SplitFlow(list, 12345))
		parts, _ := impl.SplitFlow(list, 12345)
		spoil(parts, 77)
		if !slices.Equal(list, before) || fmt.Sprint(impl.SplitFlow(list, 12345)) != want {
			t.Errorf("parts for %v share memory", before)
		}
	}
}
