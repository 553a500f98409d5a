package tests

import (
	"fmt"
	"math"
	"math/big"
	"math/rand"
	"reflect"
	"slices"
	"strings"
	"testing"

	"loop.example/g01021/impl"
)

// The declarations of chapter 13, which must keep their types.
var (
	_ func(impl.Mine, []impl.Source) bool                                                 = impl.ValidSources
	_ func(rate, flow int64) (share, code int64)                                          = impl.ShareFor
	_ func(rate, share int64) (flow, code int64)                                          = impl.DiluteFlow
	_ func(m impl.Mine, list []impl.Source, airway int64) (gas, code int64)               = impl.GasOf
	_ func(flows, shares []int64) (share, code int64)                                     = impl.MixFlows
	_ func(m impl.Mine, flows []int64, list []impl.Source) ([]int64, int64)               = impl.JunctionShares
	_ func(m impl.Mine, flows []int64, list []impl.Source) ([]int64, int64)               = impl.AirwayShares
	_ func(m impl.Mine, flows []int64, list []impl.Source, share int64) ([]int64, int64)  = impl.OverLimit
	_ func(m impl.Mine, flows []int64, list []impl.Source) (airway, share int64, c int64) = impl.WorstAirway
	_ func(impl.Source) string                                                            = impl.SourceText
	_ func(string) (impl.Source, bool)                                                    = impl.ReadSource
	_ [impl.MaxSources]struct{}                                                           = [8]struct{}{}
	_ [impl.MaxRate]struct{}                                                              = [10000000]struct{}{}
	_                                                                                     = impl.Source{Id: "", Airway: int64(0), Rate: int64(0)}
)

func mainSource() impl.Source { return impl.Source{Id: "g1", Airway: 2, Rate: 500} }

// validSources returns sources at each limit, valid for themselves, and ordinary ones.
func validSources() []impl.Source {
	return []impl.Source{
		mainSource(), {Id: "a"}, {Id: "abcdefghij", Airway: 23, Rate: 10000000}, {Id: "z9", Airway: 23}, {Id: "b", Rate: 10000000}, {Id: "g0", Airway: 7, Rate: 1}, {Id: "g", Airway: 22, Rate: 9999999},
	}
}

// invalidSources returns sources each of which breaks one rule.
func invalidSources() []impl.Source {
	list := []impl.Source{{}}
	with := func(change func(x *impl.Source)) {
		x := mainSource()
		change(&x)
		list = append(list, x)
	}
	for _, id := range []string{"", "G", "1g", "a b", " a", "a ", "a-b", "abcdefghijk", "a\n", "\xff"} {
		with(func(x *impl.Source) { x.Id = id })
	}
	for _, n := range []int64{math.MinInt64, -1, 24, 25, math.MaxInt64} {
		with(func(x *impl.Source) { x.Airway = n })
	}
	for _, n := range []int64{math.MinInt64, -1, 10000001, math.MaxInt64} {
		with(func(x *impl.Source) { x.Rate = n })
	}
	return list
}

// sourceAt returns a source whose Ids are in the order of their numbers, from 0 to 9.
func sourceAt(number int, airway, rate int64) impl.Source {
	return impl.Source{Id: fmt.Sprintf("s%d", number), Airway: airway, Rate: rate}
}

// sourcesIn returns a source in each of some airways, each with more gas than the one before it.
func sourcesIn(airways ...int64) []impl.Source {
	var list []impl.Source
	for i, k := range airways {
		list = append(list, sourceAt(i, k, 100*int64(i+1)))
	}
	return list
}

// invalidSourceLists returns lists of sources each of which breaks one rule in a mine with so many airways, from 2 to 23.
func invalidSourceLists(airways int64) [][]impl.Source {
	lists := [][]impl.Source{
		make([]impl.Source, 9), make([]impl.Source, 1000), sourcesIn(0, 0, 0, 0, 0, 0, 0, 0, 0),
		// Airways of no mine with so many.
		sourcesIn(airways), sourcesIn(23), sourcesIn(0, airways), sourcesIn(airways, 0), sourcesIn(0, 1, airways, 1), sourcesIn(-1), sourcesIn(0, -1),
		// Ids in no order, and one twice.
		{sourceAt(1, 0, 5), sourceAt(0, 1, 5)}, {sourceAt(1, 0, 5), sourceAt(1, 0, 5)}, {sourceAt(1, 0, 5), sourceAt(1, 1, 6)}, {sourceAt(0, 1, 5), sourceAt(2, 1, 5), sourceAt(1, 0, 5)},
		{{Id: "a10"}, {Id: "a1"}}, {{Id: "a9"}, {Id: "a10"}}, {{Id: "b"}, {Id: "aa"}},
	}
	for _, x := range invalidSources() {
		lists = append(lists, []impl.Source{x}, []impl.Source{{Id: "a"}, x}, []impl.Source{x, {Id: "z"}})
	}
	return lists
}

func TestValidSources(t *testing.T) {
	for _, p := range randomPlaces() {
		if !impl.ValidSources(p.m, p.list) {
			t.Errorf("%v are not valid in %v", p.list, p.m)
		}
	}
	for _, m := range []impl.Mine{triangle(), fork(), loop(), line(), mineOf(2, slices.Repeat([][2]int64{{1, 0}}, 23)...)} {
		for _, list := range invalidSourceLists(int64(len(m.Airways))) {
			if impl.ValidSources(m, list) {
				t.Errorf("%v are valid in %v", list, m)
			}
		}
	}
	for _, m := range invalidMines() {
		for _, list := range [][]impl.Source{nil, {}, sourcesIn(0)} {
			if impl.ValidSources(m, list) {
				t.Errorf("%v are valid in %v", list, m)
			}
		}
	}
	for _, x := range validSources() {
		if !impl.ValidSources(grid(), []impl.Source{x}) {
			t.Errorf("%v is not valid", x)
		}
	}
	for _, c := range []struct {
		m    impl.Mine
		list []impl.Source
		want bool
	}{
		{impl.Mine{Junctions: 1}, nil, true},
		{impl.Mine{Junctions: 1}, []impl.Source{}, true},
		{impl.Mine{Junctions: 1}, sourcesIn(0), false},
		{loop(), []impl.Source{mainSource()}, false},
		{triangle(), []impl.Source{mainSource()}, true},
		// Several sources may be in one airway.
		{loop(), sourcesIn(1, 0, 1, 1, 0, 0, 1, 1), true},
		{loop(), sourcesIn(1, 0, 1, 1, 0, 0, 1, 1, 1), false},
		{grid(), sourcesIn(23, 0, 22, 1, 21, 2, 20, 3), true},
		{triangle(), []impl.Source{{Id: "a1", Airway: 2}, {Id: "a10", Airway: 1}, {Id: "a2"}}, true},
	} {
		if got := impl.ValidSources(c.m, c.list); got != c.want {
			t.Errorf("ValidSources of %v is %v", c, got)
		}
	}
}

func isRate(n int64) bool { return from(0, 10000000, n) }

func isShare(n ...int64) bool { return from(0, 1000000, n...) }

// upwards returns a / b, rounded up.
func upwards(a, b int64) int64 {
	n, rest := new(big.Int).DivMod(big.NewInt(a), big.NewInt(b), new(big.Int))
	return n.Int64() + int64(rest.Sign())
}

func wantShareIn(rate, flow int64) int64 { return min(upwards(100*rate, flow), 1000000) }

// rates returns rates at and beyond their limits, and ordinary ones.
func rates() []int64 {
	return append(around(10000000, 1000000, 10000, 1000, 100), 3, 7, 33, 101, 12345, 999999, 5000000)
}

// gasFlows returns flows at and beyond their limits, and ordinary ones.
func gasFlows() []int64 {
	return append(around(100000, 10000, 1000, 100), 3, 7, 33, 54321)
}

func TestShareFor(t *testing.T) {
	for _, rate := range rates() {
		for _, flow := range gasFlows() {
			got := answerOf(impl.ShareFor(rate, flow))
			switch {
			case !isRate(rate) || !from(0, 100000, flow):
				expect(t, got, failed(impl.ErrRange), "ShareFor", rate, flow)
			case flow == 0:
				expect(t, got, failed(impl.ErrState), "ShareFor", rate, flow)
			default:
				expect(t, got, answer{wantShareIn(rate, flow), impl.OK}, "ShareFor", rate, flow)
			}
		}
	}
	for _, c := range []struct {
		rate, flow int64
		want       answer
	}{
		// The document's example.
		{1000, 1000, answer{100, impl.OK}},
		// A part of a millionth counts as a whole one.
		{1001, 1000, answer{101, impl.OK}}, {999, 1000, answer{100, impl.OK}}, {1009, 1000, answer{101, impl.OK}}, {1010, 1000, answer{101, impl.OK}}, {1011, 1000, answer{102, impl.OK}},
		{0, 1, answer{0, impl.OK}}, {0, 100000, answer{0, impl.OK}}, {1, 100000, answer{1, impl.OK}}, {1000, 100000, answer{1, impl.OK}}, {1001, 100000, answer{2, impl.OK}},
		// Whole is reached, and would be passed.
		{10000, 1, answer{1000000, impl.OK}}, {9999, 1, answer{999900, impl.OK}}, {10001, 1, answer{1000000, impl.OK}}, {10000000, 1, answer{1000000, impl.OK}},
		{10000000, 1000, answer{1000000, impl.OK}}, {10000000, 1001, answer{999001, impl.OK}}, {10000000, 999, answer{1000000, impl.OK}}, {10000000, 100000, answer{10000, impl.OK}},
		{10000001, 100000, failed(impl.ErrRange)}, {-1, 5, failed(impl.ErrRange)}, {5, -1, failed(impl.ErrRange)}, {5, 100001, failed(impl.ErrRange)},
		{0, 0, failed(impl.ErrState)}, {10000000, 0, failed(impl.ErrState)}, {-1, 0, failed(impl.ErrRange)}, {10000001, 0, failed(impl.ErrRange)},
	} {
		expect(t, answerOf(impl.ShareFor(c.rate, c.flow)), c.want, "ShareFor", c)
	}
}

func TestDiluteFlow(t *testing.T) {
	codes := map[int64]int{}
	shares := append(around(1000000, 10000, 1000, 100), 3, 7, 33, 54321)
	for _, rate := range rates() {
		for _, share := range shares {
			got := answerOf(impl.DiluteFlow(rate, share))
			codes[got.code]++
			switch {
			case !isRate(rate) || !from(1, 1000000, share):
				expect(t, got, failed(impl.ErrRange), "DiluteFlow", rate, share)
			case wantShareIn(rate, 100000) > share:
				expect(t, got, failed(impl.ErrNotFound), "DiluteFlow", rate, share)
			case got.code != impl.OK || !from(1, 100000, got.value) || wantShareIn(rate, got.value) > share:
				t.Errorf("DiluteFlow(%d, %d) = %v", rate, share, got)
			case got.value > 1 && wantShareIn(rate, got.value-1) <= share:
				t.Errorf("DiluteFlow(%d, %d) = %v, but less is enough", rate, share, got)
			}
		}
	}
	if codes[impl.OK] < 200 || codes[impl.ErrNotFound] < 20 {
		t.Errorf("the codes are %v", codes)
	}
	for _, c := range []struct {
		rate, share int64
		want        answer
	}{
		{1000, 100, answer{1000, impl.OK}}, {1001, 100, answer{1001, impl.OK}}, {999, 100, answer{999, impl.OK}}, {1000, 101, answer{991, impl.OK}}, {1000, 99, answer{1011, impl.OK}},
		{0, 1, answer{1, impl.OK}}, {1, 1, answer{100, impl.OK}}, {1000, 1, answer{100000, impl.OK}}, {1001, 1, failed(impl.ErrNotFound)},
		{10000000, 10000, answer{100000, impl.OK}}, {10000000, 9999, failed(impl.ErrNotFound)}, {10000000, 1, failed(impl.ErrNotFound)},
		// No share is greater than Whole, so any flow has at most this.
		{10000000, 1000000, answer{1, impl.OK}}, {10000000, 999999, answer{1001, impl.OK}}, {9999, 999900, answer{1, impl.OK}}, {9999, 999899, answer{2, impl.OK}},
		{5, 0, failed(impl.ErrRange)}, {0, 0, failed(impl.ErrRange)}, {5, 1000001, failed(impl.ErrRange)}, {10000001, 5, failed(impl.ErrRange)}, {-1, 5, failed(impl.ErrRange)},
		{10000000, 0, failed(impl.ErrRange)}, {5, -1, failed(impl.ErrRange)},
	} {
		expect(t, answerOf(impl.DiluteFlow(c.rate, c.share)), c.want, "DiluteFlow", c)
	}
}

// wantMix mixes with numbers of any size.
func wantMix(flows, shares []int64) int64 {
	all, sum := new(big.Int), new(big.Int)
	for i, flow := range flows {
		all.Add(all, big.NewInt(flow))
		sum.Add(sum, new(big.Int).Mul(big.NewInt(flow), big.NewInt(shares[i])))
	}
	if all.Sign() == 0 {
		return 0
	}
	return upwards(sum.Int64(), all.Int64())
}

// mix is a list of flows with their shares.
type mix struct{ flows, shares []int64 }

func mixOutcomes(x mix) map[string]outcome {
	return map[string]outcome{"MixFlows": counted(impl.MixFlows(x.flows, x.shares))}
}

// validMixes returns lists at each limit, and many at random.
func validMixes() []mix {
	list := []mix{
		{}, {[]int64{}, nil}, {[]int64{0}, []int64{1000000}}, {[]int64{100000}, []int64{1000000}}, {make([]int64, 64), make([]int64, 64)},
		{slices.Repeat([]int64{100000}, 64), slices.Repeat([]int64{1000000}, 64)}, {slices.Repeat([]int64{100000}, 64), append(make([]int64, 63), 1)},
	}
	random := rand.New(rand.NewSource(13))
	for i := range 2000 {
		count := random.Intn([]int{4, 65}[i%2])
		list = append(list, mix{anyNumbers(random, count, 0, 100000), anyNumbers(random, count, 0, 1000000)})
	}
	return list
}

// TestMixedLiesBetweenItsParts covers P14 for mixed flows.
func TestMixedLiesBetweenItsParts(t *testing.T) {
	for _, x := range validMixes() {
		got := answerOf(impl.MixFlows(x.flows, x.shares))
		expect(t, got, answer{wantMix(x.flows, x.shares), impl.OK}, "MixFlows", x)
		var parts []int64
		for i, flow := range x.flows {
			if flow > 0 {
				parts = append(parts, x.shares[i])
			}
		}
		if len(parts) > 0 && !from(slices.Min(parts), slices.Max(parts), got.value) {
			t.Errorf("MixFlows(%v) = %v", x, got)
		}
	}
}

func TestMixesByHand(t *testing.T) {
	for _, c := range []struct {
		x    mix
		want answer
	}{
		{mix{[]int64{100, 300}, []int64{0, 50}}, answer{38, impl.OK}},
		{mix{[]int64{300, 100}, []int64{50, 0}}, answer{38, impl.OK}},
		{mix{[]int64{100, 300}, []int64{50, 0}}, answer{13, impl.OK}},
		{mix{[]int64{200, 300}, []int64{50, 0}}, answer{20, impl.OK}},
		{mix{[]int64{100000, 100000}, []int64{0, 1}}, answer{1, impl.OK}},
		{mix{[]int64{1, 99999}, []int64{1000000, 0}}, answer{10, impl.OK}},
		{mix{[]int64{1, 1, 1}, []int64{1000000, 1000000, 999999}}, answer{1000000, impl.OK}},
		// What does not flow does not count.
		{mix{[]int64{0}, []int64{50}}, answer{0, impl.OK}},
		{mix{[]int64{0, 0}, []int64{50, 1000000}}, answer{0, impl.OK}},
		{mix{[]int64{0, 7}, []int64{1000000, 3}}, answer{3, impl.OK}},
		{mix{[]int64{7, 0}, []int64{3, 0}}, answer{3, impl.OK}},
		{mix{[]int64{7}, []int64{50}}, answer{50, impl.OK}},
		{mix{nil, nil}, answer{0, impl.OK}},
		{mix{[]int64{1}, nil}, failed(impl.ErrOrder)},
		{mix{nil, []int64{1}}, failed(impl.ErrOrder)},
		{mix{[]int64{-1}, nil}, failed(impl.ErrRange)},
		{mix{nil, []int64{1000001}}, failed(impl.ErrRange)},
		{mix{[]int64{0, 100001}, []int64{0, 0}}, failed(impl.ErrRange)},
		{mix{[]int64{0, 100000}, []int64{1000000, -1}}, failed(impl.ErrRange)},
		{mix{make([]int64, 65), make([]int64, 65)}, failed(impl.ErrOrder)},
		{mix{append(make([]int64, 64), -1), make([]int64, 65)}, failed(impl.ErrRange)},
	} {
		expect(t, answerOf(impl.MixFlows(c.x.flows, c.x.shares)), c.want, "MixFlows", c.x)
	}
}

func goodMixes() []mix {
	return []mix{{[]int64{100, 300}, []int64{0, 50}}, {slices.Repeat([]int64{100000}, 64), slices.Repeat([]int64{1000000}, 64)}, {[]int64{0, 0, 5}, []int64{7, 8, 9}}}
}

func faultsOfMix(x mix) []fault[mix] {
	tooFew := func(argument string, set func(x *mix, list []int64), good []int64) fault[mix] {
		lists := [][]int64{nil, good[1:], append(slices.Clone(good), 0), make([]int64, 1000)}
		return faultOfLists(argument, impl.ErrOrder, "MixFlows", lists, set)
	}
	wrong := func(good []int64, high int64) [][]int64 {
		var lists [][]int64
		for i := range good {
			for _, n := range []int64{math.MinInt64, -1, high + 1, math.MaxInt64} {
				list := slices.Clone(good)
				list[i] = n
				lists = append(lists, list, append(slices.Clone(good), n), []int64{n})
			}
		}
		return lists
	}
	setFlows, setShares := func(x *mix, list []int64) { x.flows = list }, func(x *mix, list []int64) { x.shares = list }
	return []fault[mix]{
		faultOfLists("flows", impl.ErrRange, "MixFlows", wrong(x.flows, 100000), setFlows),
		faultOfLists("shares", impl.ErrRange, "MixFlows", wrong(x.shares, 1000000), setShares),
		tooFew("flows", setFlows, x.flows),
		tooFew("shares", setShares, x.shares),
	}
}

func TestErrorsOfMixFlows(t *testing.T) {
	for _, good := range goodMixes() {
		// Two lists that are wrong by as much would fit each other, so only one of them is too short or too long at a time.
		faults := faultsOfMix(good)
		expectErrors(t, good, mixOutcomes, []fault[mix]{faults[0], faults[1], faults[2]})
		expectErrors(t, good, mixOutcomes, []fault[mix]{faults[0], faults[1], faults[3]})
	}
	for _, count := range []int{65, 66, 1000, 100000} {
		expect(t, answerOf(impl.MixFlows(make([]int64, count), make([]int64, count))), failed(impl.ErrOrder), "MixFlows", count)
	}
}

// place is a mine with the other arguments of the functions of gas in it.
type place struct {
	m             impl.Mine
	flows         []int64
	list          []impl.Source
	airway, share int64
}

func placeOutcomes(p place) map[string]outcome {
	return map[string]outcome{
		"GasOf":          counted(impl.GasOf(p.m, p.list, p.airway)),
		"JunctionShares": listed(impl.JunctionShares(p.m, p.flows, p.list)),
		"AirwayShares":   listed(impl.AirwayShares(p.m, p.flows, p.list)),
		"OverLimit":      listed(impl.OverLimit(p.m, p.flows, p.list, p.share)),
		"WorstAirway":    paired(impl.WorstAirway(p.m, p.flows, p.list)),
	}
}

// anySources returns valid sources of a mine.
func anySources(random *rand.Rand, m impl.Mine) []impl.Source {
	var list []impl.Source
	if len(m.Airways) == 0 {
		return nil
	}
	for i, rate := range anyNumbers(random, random.Intn(9), 0, []int64{10000000, 100000, 1000}[random.Intn(3)]) {
		list = append(list, sourceAt(i, random.Int63n(int64(len(m.Airways))), rate))
	}
	return list
}

func anyPlace(random *rand.Rand, m impl.Mine) place {
	p := place{m: m, flows: anyNumbers(random, len(m.Airways), -100000, 100000), list: anySources(random, m), share: anyNumbers(random, 1, 0, 1000000)[0]}
	if len(m.Airways) > 0 {
		p.airway = random.Int63n(int64(len(m.Airways)))
	}
	return p
}

// randomPlaces returns places in all kinds of mines, with flows that are not balanced, and some that are none.
func randomPlaces() []place {
	random := rand.New(rand.NewSource(1013))
	var list []place
	for _, m := range validMines() {
		list = append(list, anyPlace(random, m), anyPlace(random, m))
	}
	for range 300 {
		junctions := 2 + random.Intn(9)
		list = append(list, anyPlace(random, looped(random, junctions, random.Intn(25-junctions))))
	}
	return list
}

// forward returns flows that all go from lesser junctions to greater ones, so that no air comes back.
func forward(m impl.Mine, flows []int64) []int64 {
	list := slices.Clone(flows)
	for i, a := range m.Airways {
		if (a.From < a.To) != (flows[i] > 0) {
			list[i] = -flows[i]
		}
	}
	return list
}

func wantGas(p place, airway int) int64 {
	sum := int64(0)
	for _, x := range p.list {
		if x.Airway == int64(airway) {
			sum += x.Rate
		}
	}
	return sum
}

// wantEnd returns the share at the end of an airway.
func wantEnd(p place, airway int, shares []int64) int64 {
	a, gas := p.m.Airways[airway], wantGas(p, airway)
	switch flow := p.flows[airway]; {
	case flow > 0:
		return min(1000000, shares[a.From]+wantShareIn(gas, flow))
	case flow < 0:
		return min(1000000, shares[a.To]+wantShareIn(gas, -flow))
	case gas > 0:
		return 1000000
	}
	return 0
}

// comingTo returns the airways through which air comes to a junction.
func comingTo(p place, junction int64) []int {
	var list []int
	for k, a := range p.m.Airways {
		if p.flows[k] > 0 && a.To == junction || p.flows[k] < 0 && a.From == junction {
			list = append(list, k)
		}
	}
	return list
}

// wantJunctions returns the shares at junctions after so many rounds.
func wantJunctions(p place, rounds int64) []int64 {
	shares := make([]int64, p.m.Junctions)
	for range rounds {
		next := make([]int64, p.m.Junctions)
		for junction := range next {
			var flows, ends []int64
			for _, k := range comingTo(p, int64(junction)) {
				flows = append(flows, max(p.flows[k], -p.flows[k]))
				ends = append(ends, wantEnd(p, k, shares))
			}
			next[junction] = wantMix(flows, ends)
		}
		shares = next
	}
	return shares
}

func wantEnds(p place, shares []int64) []int64 {
	var ends []int64
	for k := range p.m.Airways {
		ends = append(ends, wantEnd(p, k, shares))
	}
	return ends
}

func wantWorst(ends []int64) outcome {
	if len(ends) == 0 {
		return nothing(impl.ErrNotFound)
	}
	most := slices.Max(ends)
	return paired(int64(slices.Index(ends, most)), most, impl.OK)
}

func wantOver(ends []int64, share int64) outcome {
	var list []int64
	for k, n := range ends {
		if n > share {
			list = append(list, int64(k))
		}
	}
	return listed(list, impl.OK)
}

func TestSharesInMines(t *testing.T) {
	circling, full := 0, 0
	for _, p := range randomPlaces() {
		got := placeOutcomes(p)
		shares := wantJunctions(p, p.m.Junctions)
		ends := wantEnds(p, shares)
		expectOutcome(t, got["JunctionShares"], listed(shares, impl.OK), "JunctionShares", p)
		expectOutcome(t, got["AirwayShares"], listed(ends, impl.OK), "AirwayShares", p)
		expectOutcome(t, got["WorstAirway"], wantWorst(ends), "WorstAirway", p)
		expectOutcome(t, got["OverLimit"], wantOver(ends, p.share), "OverLimit", p)
		for _, n := range ends {
			for _, share := range []int64{n - 1, n, n + 1} {
				if isShare(share) {
					expectOutcome(t, listed(impl.OverLimit(p.m, p.flows, p.list, share)), wantOver(ends, share), "OverLimit", p, share)
				}
			}
		}
		for k := range p.m.Airways {
			expect(t, answerOf(impl.GasOf(p.m, p.list, int64(k))), answer{wantGas(p, k), impl.OK}, "GasOf", p, k)
		}
		if !slices.Equal(shares, wantJunctions(p, p.m.Junctions+1)) {
			circling++
		}
		if slices.Contains(shares, 1000000) {
			full++
		}
	}
	if circling < 50 || full < 10 {
		t.Errorf("only %d places in which gas goes on to come back, and %d with a full junction", circling, full)
	}
}

// TestJunctionsLieBetweenWhatComes covers P14 for the air at junctions.
func TestJunctionsLieBetweenWhatComes(t *testing.T) {
	mixed := 0
	for _, p := range randomPlaces() {
		for _, flows := range [][]int64{p.flows, forward(p.m, p.flows)} {
			p.flows = flows
			shares, _ := impl.JunctionShares(p.m, p.flows, p.list)
			ends, _ := impl.AirwayShares(p.m, p.flows, p.list)
			for j, share := range shares {
				var parts []int64
				for _, k := range comingTo(p, int64(j)) {
					parts = append(parts, ends[k])
				}
				if len(parts) == 0 {
					parts = []int64{0}
				}
				low, high := slices.Min(parts), slices.Max(parts)
				// Where gas comes back, it may go on to become more in each round, so that the ends are ahead.
				if share > high || share < low && slices.Equal(flows, forward(p.m, flows)) {
					t.Errorf("at the junction %d of %v there is %d of %v", j, p, share, parts)
				}
				if low < share && share < high {
					mixed++
				}
			}
		}
	}
	if mixed < 500 {
		t.Errorf("only %d junctions mix anything", mixed)
	}
}

// withMore returns a place with a further source, or with more gas from a source that there is.
func withMore(random *rand.Rand, p place) place {
	list := slices.Clone(p.list)
	if len(list) < 8 && random.Intn(3) > 0 {
		x := impl.Source{Id: []string{"a", "s", "z"}[random.Intn(3)], Airway: random.Int63n(int64(len(p.m.Airways))), Rate: anyNumbers(random, 1, 0, 10000000)[0]}
		list = append(list, x)
		slices.SortFunc(list, func(a, b impl.Source) int { return strings.Compare(a.Id, b.Id) })
	} else if len(list) > 0 {
		x := &list[random.Intn(len(list))]
		x.Rate += random.Int63n(10000001 - x.Rate)
	}
	p.list = list
	return p
}

// TestFurtherSourcesMakeNoShareLess covers P14 for sources.
func TestFurtherSourcesMakeNoShareLess(t *testing.T) {
	random := rand.New(rand.NewSource(14))
	more := 0
	for _, p := range randomPlaces() {
		if len(p.m.Airways) == 0 {
			continue
		}
		for range 4 {
			q := withMore(random, p)
			before, after := placeOutcomes(p), placeOutcomes(q)
			for _, name := range []string{"JunctionShares", "AirwayShares"} {
				a, b := before[name], after[name]
				if a.code != impl.OK || b.code != impl.OK || len(a.list) != len(b.list) {
					t.Fatalf("%s returns %v and %v", name, a, b)
				}
				for i := range a.list {
					if b.list[i] < a.list[i] {
						t.Errorf("%s of %v is %v, and with %v only %v", name, p, a, q.list, b)
					}
					if b.list[i] > a.list[i] {
						more++
					}
				}
			}
			for _, k := range before["OverLimit"].list {
				if !slices.Contains(after["OverLimit"].list, k) {
					t.Errorf("in %v the airway %d is over the limit, but not with %v", p, k, q.list)
				}
			}
			if after["GasOf"].number < before["GasOf"].number || after["WorstAirway"].list[1] < before["WorstAirway"].list[1] {
				t.Errorf("%v has %v, and with %v only %v", p, before, q.list, after)
			}
		}
	}
	if more < 2000 {
		t.Errorf("only %d shares become more", more)
	}
}

func TestSharesByHand(t *testing.T) {
	wide := mineOf(3, [2]int64{0, 1}, [2]int64{1, 0})
	split := mineOf(3, [2]int64{0, 1}, [2]int64{1, 2}, [2]int64{1, 2})
	for _, c := range []struct {
		p                      place
		shares, ends, o, worst outcome
	}{
		// The gas of the first airway and of one of two others, behind which the air comes together again.
		{
			place{m: split, flows: []int64{2000, 1500, 500}, list: []impl.Source{sourceAt(0, 1, 3000), sourceAt(1, 0, 1000)}, share: 50},
			listed([]int64{0, 50, 200}, impl.OK), listed([]int64{50, 250, 50}, impl.OK), listed([]int64{1}, impl.OK), paired(1, 250, impl.OK),
		},
		{
			place{m: split, flows: []int64{2000, 1500, 500}, list: []impl.Source{sourceAt(0, 1, 3000), sourceAt(1, 0, 1000)}, share: 49},
			listed([]int64{0, 50, 200}, impl.OK), listed([]int64{50, 250, 50}, impl.OK), listed([]int64{0, 1, 2}, impl.OK), paired(1, 250, impl.OK),
		},
		// The air goes against all airways, and takes the gas the other way.
		{
			place{m: split, flows: []int64{-2000, -1500, -500}, list: []impl.Source{sourceAt(0, 1, 3000), sourceAt(1, 0, 1000)}, share: 200},
			listed([]int64{200, 150, 0}, impl.OK), listed([]int64{200, 200, 0}, impl.OK), nothing(impl.OK), paired(0, 200, impl.OK),
		},
		// Without flow an airway is full of gas if there is a source, but nothing comes out of it.
		{
			place{m: split, flows: []int64{0, -1500, 0}, list: []impl.Source{sourceAt(0, 1, 3000), sourceAt(1, 0, 1000)}, share: 999999},
			listed([]int64{0, 200, 0}, impl.OK), listed([]int64{1000000, 200, 0}, impl.OK), listed([]int64{0}, impl.OK), paired(0, 1000000, impl.OK),
		},
		{
			place{m: split, flows: []int64{0, 0, 0}, list: []impl.Source{sourceAt(0, 1, 1), sourceAt(1, 2, 0)}, share: 1000000},
			listed([]int64{0, 0, 0}, impl.OK), listed([]int64{0, 1000000, 0}, impl.OK), nothing(impl.OK), paired(1, 1000000, impl.OK),
		},
		{
			place{m: split, flows: []int64{1000, 0, 1000}, list: []impl.Source{sourceAt(0, 0, 1000), sourceAt(1, 1, 1)}, share: 100},
			listed([]int64{0, 100, 100}, impl.OK), listed([]int64{100, 1000000, 100}, impl.OK), listed([]int64{1}, impl.OK), paired(1, 1000000, impl.OK),
		},
		// An airway without flow has no gas of the junctions at its ends.
		{
			place{m: split, flows: []int64{1000, 0, 1000}, list: []impl.Source{sourceAt(0, 0, 1000)}, share: 0},
			listed([]int64{0, 100, 100}, impl.OK), listed([]int64{100, 0, 100}, impl.OK), listed([]int64{0, 2}, impl.OK), paired(0, 100, impl.OK),
		},
		// Air that comes back brings its gas again, as often as there are junctions.
		{
			place{m: loop(), flows: []int64{1000, 1000}, list: []impl.Source{sourceAt(0, 0, 1000), sourceAt(1, 1, 1000)}, share: 300},
			listed([]int64{200, 200}, impl.OK), listed([]int64{300, 300}, impl.OK), nothing(impl.OK), paired(0, 300, impl.OK),
		},
		{
			place{m: wide, flows: []int64{1000, 1000}, list: []impl.Source{sourceAt(0, 0, 1000), sourceAt(1, 1, 1000)}, share: 300},
			listed([]int64{300, 300, 0}, impl.OK), listed([]int64{400, 400}, impl.OK), listed([]int64{0, 1}, impl.OK), paired(0, 400, impl.OK),
		},
		{
			place{m: triangle(), flows: []int64{1000, 1000, 1000}, list: []impl.Source{sourceAt(0, 0, 1000)}, share: 100},
			listed([]int64{100, 100, 100}, impl.OK), listed([]int64{200, 100, 100}, impl.OK), listed([]int64{0}, impl.OK), paired(0, 200, impl.OK),
		},
		{
			place{m: triangle(), flows: []int64{-1000, -1000, -1000}, list: []impl.Source{sourceAt(0, 1, 1000)}, share: 100},
			listed([]int64{100, 100, 100}, impl.OK), listed([]int64{100, 200, 100}, impl.OK), listed([]int64{1}, impl.OK), paired(1, 200, impl.OK),
		},
		// Two sources in one airway are one share, which is rounded up once; they may have more than MaxRate together.
		{
			place{m: loop(), flows: []int64{200, 0}, list: []impl.Source{sourceAt(0, 0, 1), sourceAt(1, 0, 1)}, share: 1},
			listed([]int64{0, 1}, impl.OK), listed([]int64{1, 0}, impl.OK), nothing(impl.OK), paired(0, 1, impl.OK),
		},
		{
			place{m: loop(), flows: []int64{0, -100000}, list: slices.Concat([]impl.Source{{Id: "a", Airway: 1, Rate: 10000000}}, atMost(7, 1)), share: 79999},
			listed([]int64{0, 80000}, impl.OK), listed([]int64{0, 80000}, impl.OK), listed([]int64{1}, impl.OK), paired(1, 80000, impl.OK),
		},
		// A share is at most Whole, also with that at the start, and flows need not be balanced.
		{
			place{m: triangle(), flows: []int64{1, 100000, 0}, list: []impl.Source{sourceAt(0, 0, 10000000), sourceAt(1, 1, 10000000)}, share: 999999},
			listed([]int64{0, 1000000, 1000000}, impl.OK), listed([]int64{1000000, 1000000, 0}, impl.OK), listed([]int64{0, 1}, impl.OK), paired(0, 1000000, impl.OK),
		},
		{
			place{m: triangle(), flows: []int64{1000, 100000, 0}, list: []impl.Source{sourceAt(0, 0, 9900000), sourceAt(1, 1, 9999000)}, share: 999999},
			listed([]int64{0, 990000, 999999}, impl.OK), listed([]int64{990000, 999999, 0}, impl.OK), nothing(impl.OK), paired(1, 999999, impl.OK),
		},
		// What comes together is rounded up.
		{
			place{m: fork(), flows: []int64{0, -1, -99999}, list: []impl.Source{sourceAt(0, 1, 10000)}, share: 10},
			listed([]int64{0, 10}, impl.OK), listed([]int64{0, 1000000, 0}, impl.OK), listed([]int64{1}, impl.OK), paired(1, 1000000, impl.OK),
		},
		{
			place{m: fork(), flows: []int64{0, -1, -99998}, list: []impl.Source{sourceAt(0, 1, 10000)}, share: 10},
			listed([]int64{0, 11}, impl.OK), listed([]int64{0, 1000000, 0}, impl.OK), listed([]int64{1}, impl.OK), paired(1, 1000000, impl.OK),
		},
		// Without sources there is no gas, and without airways no worst one.
		{
			place{m: triangle(), flows: []int64{5, -5, 0}, share: 0},
			listed([]int64{0, 0, 0}, impl.OK), listed([]int64{0, 0, 0}, impl.OK), nothing(impl.OK), paired(0, 0, impl.OK),
		},
		{place{m: impl.Mine{Junctions: 2}}, listed([]int64{0, 0}, impl.OK), nothing(impl.OK), nothing(impl.OK), nothing(impl.ErrNotFound)},
		{place{m: impl.Mine{Junctions: 2}, flows: []int64{1}}, nothing(impl.ErrOrder), nothing(impl.ErrOrder), nothing(impl.ErrOrder), nothing(impl.ErrOrder)},
		{place{m: impl.Mine{Junctions: 2}, share: -1}, listed([]int64{0, 0}, impl.OK), nothing(impl.OK), nothing(impl.ErrRange), nothing(impl.ErrNotFound)},
		{place{m: impl.Mine{Junctions: 2}, list: sourcesIn(0)}, nothing(impl.ErrInvalid), nothing(impl.ErrInvalid), nothing(impl.ErrInvalid), nothing(impl.ErrInvalid)},
		{place{m: impl.Mine{}, flows: []int64{1}, share: -1}, nothing(impl.ErrInvalid), nothing(impl.ErrInvalid), nothing(impl.ErrInvalid), nothing(impl.ErrInvalid)},
		{place{m: loop(), flows: []int64{1}, share: -1}, nothing(impl.ErrOrder), nothing(impl.ErrOrder), nothing(impl.ErrRange), nothing(impl.ErrOrder)},
	} {
		got := placeOutcomes(c.p)
		for name, want := range map[string]outcome{"JunctionShares": c.shares, "AirwayShares": c.ends, "OverLimit": c.o, "WorstAirway": c.worst} {
			expectOutcome(t, got[name], want, name, c.p)
		}
	}
}

// atMost returns so many sources in an airway, with the greatest rate.
func atMost(count int, airway int64) []impl.Source {
	var list []impl.Source
	for i := range count {
		list = append(list, sourceAt(i, airway, 10000000))
	}
	return list
}

func TestGasByHand(t *testing.T) {
	list := []impl.Source{sourceAt(0, 1, 3000), sourceAt(1, 0, 1000), sourceAt(2, 1, 50)}
	for _, c := range []struct {
		m      impl.Mine
		list   []impl.Source
		airway int64
		want   answer
	}{
		{triangle(), list, 0, answer{1000, impl.OK}},
		{triangle(), list, 1, answer{3050, impl.OK}},
		{triangle(), list, 2, answer{0, impl.OK}},
		{triangle(), list, 3, failed(impl.ErrRange)},
		{triangle(), list, -1, failed(impl.ErrRange)},
		{triangle(), nil, 2, answer{0, impl.OK}},
		{grid(), atMost(8, 23), 23, answer{80000000, impl.OK}},
		{grid(), atMost(8, 23), 24, failed(impl.ErrRange)},
		{impl.Mine{Junctions: 1}, nil, 0, failed(impl.ErrRange)},
		{impl.Mine{Junctions: 1}, sourcesIn(0), 0, failed(impl.ErrInvalid)},
		{loop(), sourcesIn(0, 1), 1, answer{200, impl.OK}},
		{loop(), sourcesIn(0, 2), 3, failed(impl.ErrInvalid)},
		{impl.Mine{}, nil, 0, failed(impl.ErrInvalid)},
	} {
		expect(t, answerOf(impl.GasOf(c.m, c.list, c.airway)), c.want, "GasOf", c)
	}
}

// goodPlaces returns places for which all functions return OK.
func goodPlaces() []place {
	return []place{
		{m: triangle(), flows: []int64{1000, -1000, 0}, list: sourcesIn(0, 1, 2, 2), airway: 2, share: 50},
		{m: fork(), flows: []int64{-100000, 100000, 1}, list: atMost(8, 1), airway: 0, share: 1000000},
		{m: loop(), flows: []int64{0, 0}, airway: 1},
	}
}

func faultsOfPlace(p place) []fault[place] {
	withFlows := "JunctionShares AirwayShares OverLimit WorstAirway"
	ofSources := fault[place]{argument: "list", code: impl.ErrInvalid, in: "GasOf " + withFlows}
	for _, list := range invalidSourceLists(int64(len(p.m.Airways))) {
		ofSources.changes = append(ofSources.changes, func(p *place) { p.list = list })
	}
	return []fault[place]{
		faultOfMine("GasOf "+withFlows, func(p *place, m impl.Mine) { p.m = m }),
		ofSources,
		faultOfNumber("airway", "GasOf", 0, int64(len(p.m.Airways))-1, func(p *place, n int64) { p.airway = n }),
		faultOfNumber("share", "OverLimit", 0, 1000000, func(p *place, n int64) { p.share = n }),
		faultOfLists("flows", impl.ErrOrder, withFlows, wrongLists(p.flows, -100000, 100000), func(p *place, list []int64) { p.flows = list }),
	}
}

func TestErrorsOfGas(t *testing.T) {
	for _, good := range goodPlaces() {
		expectErrors(t, good, placeOutcomes, faultsOfPlace(good))
	}
}

func sourceText(x impl.Source) string { return fmt.Sprintf("%s %d,%d", x.Id, x.Airway, x.Rate) }

func TestSourcesAreReadBack(t *testing.T) {
	for _, x := range validSources() {
		s := impl.SourceText(x)
		if s != sourceText(x) {
			t.Errorf("SourceText(%v) = %q", x, s)
		}
		if got, ok := impl.ReadSource(s); got != x || !ok {
			t.Errorf("ReadSource(%q) = %v, %v", s, got, ok)
		}
	}
	if s := impl.SourceText(mainSource()); s != "g1 2,500" {
		t.Errorf("%v has the text %q", mainSource(), s)
	}
	for _, x := range invalidSources() {
		if s := impl.SourceText(x); s != "" {
			t.Errorf("SourceText(%v) = %q", x, s)
		}
		if got, ok := impl.ReadSource(sourceText(x)); ok || got != (impl.Source{}) {
			t.Errorf("ReadSource(%q) = %v, %v", sourceText(x), got, ok)
		}
	}
}

func TestReadSourceTakesCanonicalTextsOnly(t *testing.T) {
	texts := append(oddTexts(), "g", "g ", "g -", "g 1", "g 1,", "g ,1", "g 1,2,3", "g 1,2,", "g ,1,2", "g  1,2", " g 1,2", "g 1,2 ", "g 1,2\n", "g\t1,2", "g,1,2", "1,2", " 1,2", "G 1,2", "1g 1,2", "g 01,2", "g 1,02",
		"g +1,2", "g 1,+2", "g -1,2", "g 1,-2", "g -0,2", "g 1,-0", "g 1, 2", "g 1 2", "g 1,x", "g 1,,2", "g 1,2 g", "g g 1,2", "g 1.0,2", "g 24,0", "g 0,10000001", "g 1000000000000000000,2", "abcdefghijk 1,2", "g 1,"+strings.Repeat("1", 1000), strings.Repeat("a", 1000)+" 1,2")
	for _, s := range texts {
		if got, ok := impl.ReadSource(s); ok || got != (impl.Source{}) {
			t.Errorf("ReadSource(%.30q) = %v, %v, want the zero Source and false", s, got, ok)
		}
	}
}

// placeResults returns what all functions with sources in a mine return.
func placeResults(p place) []any {
	all := []any{impl.ValidSources(p.m, p.list)}
	outcomes := placeOutcomes(p)
	for _, name := range []string{"GasOf", "JunctionShares", "AirwayShares", "OverLimit", "WorstAirway"} {
		all = append(all, outcomes[name])
	}
	return all
}

// wildPlaces returns places far beyond what any of them may be.
func wildPlaces() []place {
	wild := impl.Mine{Junctions: math.MaxInt64, Airways: make([]impl.Airway, 1000)}
	long := slices.Repeat([]int64{math.MinInt64, math.MaxInt64}, 5000)
	list := []place{{}, {m: wild, flows: long, list: make([]impl.Source, 1000)}, {m: loop(), flows: long}, {m: wild, flows: long[:1000], list: sourcesIn(0), airway: 5, share: 5}}
	for _, n := range edgeNumbers() {
		for _, m := range []impl.Mine{loop(), grid(), {Junctions: n}} {
			numbers := slices.Repeat([]int64{n}, len(m.Airways))
			list = append(list, place{m, numbers, nil, n, n}, place{m, numbers, []impl.Source{sourceAt(0, n, 5)}, 1, 5}, place{m, numbers, []impl.Source{sourceAt(0, 0, n), sourceAt(1, 1, -n)}, 1, n})
		}
	}
	return list
}

// manyPlaces returns all kinds of places.
func manyPlaces() []place {
	list := append(append(randomPlaces(), wildPlaces()...), goodPlaces()...)
	for _, good := range goodPlaces() {
		list = append(list, faulty(good, faultsOfPlace(good))...)
	}
	return list
}

func TestGasReturnsTheSameForAllArguments(t *testing.T) {
	for _, p := range manyPlaces() {
		twice(t, "the functions of gas in a mine", func() []any { return placeResults(p) })
	}
	for _, x := range append(append(validMixes(), mix{edgeNumbers(), edgeNumbers()}, mix{around(), nil}), goodMixes()...) {
		twice(t, "MixFlows", func() []any { return []any{mixOutcomes(x)} })
	}
	numbers := edgeNumbers()
	for _, a := range numbers {
		for _, b := range numbers {
			twice(t, "the functions of a rate", func() []any {
				x := impl.Source{Id: "g", Airway: a, Rate: b}
				return []any{answerOf(impl.ShareFor(a, b)), answerOf(impl.DiluteFlow(a, b)), answerOf(impl.MixFlows([]int64{a}, []int64{b})), answerOf(impl.MixFlows([]int64{a, b}, []int64{b, a})), impl.SourceText(x)}
			})
		}
	}
	for _, s := range append(oddTexts(), "g1 2,500", "g1 24,500", "g1 2,-1") {
		twice(t, "ReadSource", func() []any { x, ok := impl.ReadSource(s); return []any{x, ok} })
	}
	for _, m := range []impl.Mine{{Junctions: 1}, {Junctions: 1, Airways: []impl.Airway{}}, triangle(), {}} {
		a, b := fmt.Sprint(placeResults(place{m: m})), fmt.Sprint(placeResults(place{m: m, flows: []int64{}, list: []impl.Source{}}))
		if a != b {
			t.Errorf("no numbers in %v have %v as nil, and else %v", m, a, b)
		}
	}
}

func TestGasModifiesNoArgument(t *testing.T) {
	for _, p := range manyPlaces() {
		airways, allAirways := roomyList(p.m.Airways, airwayBetween(77, 1, 0))
		flows, allFlows := roomyList(p.flows, -77)
		list, allSources := roomyList(p.list, sourceAt(7, 1, 2))
		before := fmt.Sprint(allAirways, allFlows, allSources)
		placeResults(place{impl.Mine{Junctions: p.m.Junctions, Airways: airways}, flows, list, p.airway, p.share})
		if after := fmt.Sprint(allAirways, allFlows, allSources); after != before {
			t.Errorf("%.300s becomes %.300s", before, after)
		}
	}
	for _, x := range validMixes() {
		if !untouched(x.flows, -77, func(flows []int64) { mixOutcomes(mix{flows, x.shares}) }) || !untouched(x.shares, -77, func(shares []int64) { mixOutcomes(mix{x.flows, shares}) }) {
			t.Errorf("%v or what lies behind it is changed", x)
		}
	}
}

func TestGasReturnsNewMemory(t *testing.T) {
	for _, p := range append(randomPlaces(), goodPlaces()...) {
		before, want := fmt.Sprint(p), placeResults(p)
		for _, o := range placeOutcomes(p) {
			spoil(o.list, 77)
		}
		if fmt.Sprint(p) != before || !reflect.DeepEqual(placeResults(p), want) {
			t.Errorf("results for %s share memory", before)
		}
	}
}
