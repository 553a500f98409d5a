package tests

import (
	"fmt"
	"math"
	"math/big"
	"math/rand"
	"reflect"
	"slices"
	"strings"
	"testing"

	"loop.example/g01021/impl"
)

// The declarations of chapter 10, which must keep their types.
var (
	_ func(impl.Door) bool                                       = impl.ValidDoor
	_ func(impl.Mine, []impl.Door) bool                          = impl.ValidDoors
	_ func(impl.Mine, []impl.Door, []bool) ([]int64, int64)      = impl.OpenDoors
	_ func(resistance, flow, drop int64) (regulator, code int64) = impl.RegulatorFor
	_ func(a, b int64) (share, code int64)                       = impl.ShareBeside
	_ func(a, b, share int64) (regulator, code int64)            = impl.RegulatorForShare
	_ func(doors int64, locks [][]int64) bool                    = impl.ValidLocks
	_ func(states []bool, locks [][]int64) bool                  = impl.AreLocked
	_ func(doors int64, locks [][]int64) (count, code int64)     = impl.CountStates
	_ func(locks [][]int64, from, to []bool) ([]int64, int64)    = impl.FewestMoves
	_ func([]bool) string                                        = impl.StatesText
	_ func(string) ([]bool, bool)                                = impl.ReadStates
	_ func(impl.Door) string                                     = impl.DoorText
	_ func(string) (impl.Door, bool)                             = impl.ReadDoor
	_ [impl.MaxDoors]struct{}                                    = [8]struct{}{}
	_ [impl.MaxLocks]struct{}                                    = [12]struct{}{}
	_                                                            = impl.Door{Id: "", Airway: int64(0), Open: int64(0), Shut: int64(0)}
)

func mainDoor() impl.Door { return impl.Door{Id: "d", Airway: 1, Open: 10, Shut: 5000} }

// validDoors returns doors at each limit, and ordinary ones.
func validDoors() []impl.Door {
	return []impl.Door{
		mainDoor(), {Id: "a", Open: 1, Shut: 1}, {Id: "abcdefghij", Airway: 23, Open: 1000000, Shut: 1000000}, {Id: "z9", Airway: 23, Open: 1, Shut: 1000000},
		{Id: "d1", Airway: 7, Open: 500, Shut: 500}, {Id: "d2", Airway: 7, Open: 500, Shut: 501},
	}
}

// invalidDoors returns doors each of which breaks one rule.
func invalidDoors() []impl.Door {
	list := []impl.Door{{}}
	with := func(change func(d *impl.Door)) {
		d := mainDoor()
		change(&d)
		list = append(list, d)
	}
	for _, id := range []string{"", "D", "1d", "a b", " a", "a ", "a-b", "abcdefghijk", "a\n", "\xff"} {
		with(func(d *impl.Door) { d.Id = id })
	}
	for _, n := range []int64{math.MinInt64, -1, 24, math.MaxInt64} {
		with(func(d *impl.Door) { d.Airway = n })
	}
	for _, n := range []int64{math.MinInt64, -1, 0, 5001, 1000000, 1000001, math.MaxInt64} {
		with(func(d *impl.Door) { d.Open = n })
	}
	for _, n := range []int64{math.MinInt64, -1, 0, 9, 1000001, math.MaxInt64} {
		with(func(d *impl.Door) { d.Shut = n })
	}
	with(func(d *impl.Door) { d.Open, d.Shut = 0, 0 })
	with(func(d *impl.Door) { d.Open, d.Shut = 1000001, 1000001 })
	return list
}

func TestValidDoor(t *testing.T) {
	for _, d := range validDoors() {
		if !impl.ValidDoor(d) {
			t.Errorf("%v is not valid", d)
		}
	}
	for _, d := range invalidDoors() {
		if impl.ValidDoor(d) {
			t.Errorf("%v is valid", d)
		}
	}
}

// doorAt returns a door whose Ids are in the order of their numbers, from 0 to 9.
func doorAt(number int, airway, open, shut int64) impl.Door {
	return impl.Door{Id: fmt.Sprintf("d%d", number), Airway: airway, Open: open, Shut: shut}
}

// doorsIn returns a door in each of some airways.
func doorsIn(airways ...int64) []impl.Door {
	var list []impl.Door
	for i, k := range airways {
		list = append(list, doorAt(i, k, 10*int64(i)+1, 1000))
	}
	return list
}

// site is a mine with the other arguments of OpenDoors.
type site struct {
	m      impl.Mine
	doors  []impl.Door
	states []bool
}

func siteOutcomes(s site) map[string]outcome {
	return map[string]outcome{"OpenDoors": listed(impl.OpenDoors(s.m, s.doors, s.states))}
}

func anyStates(random *rand.Rand, count int) []bool {
	states := make([]bool, count)
	for i := range states {
		states[i] = random.Intn(2) == 0
	}
	return states
}

// randomSites returns sites with valid doors.
func randomSites() []site {
	random := rand.New(rand.NewSource(10))
	var list []site
	for _, m := range validMines() {
		for range 3 {
			airways := random.Perm(len(m.Airways))
			s := site{m: m}
			for i := range random.Intn(min(8, len(airways)) + 1) {
				ends := anyNumbers(random, 2, 1, []int64{1000000, 300000, 1000}[random.Intn(3)])
				s.doors = append(s.doors, doorAt(i, int64(airways[i]), slices.Min(ends), slices.Max(ends)))
			}
			s.states = anyStates(random, len(s.doors))
			list = append(list, s)
		}
	}
	return list
}

// invalidDoorLists returns lists of doors each of which breaks one rule in a mine with so many airways, from 3 to 23.
func invalidDoorLists(airways int64) [][]impl.Door {
	last := airways - 1
	lists := [][]impl.Door{
		make([]impl.Door, 9), make([]impl.Door, 1000),
		// Airways of no mine with so many.
		{doorAt(0, airways, 1, 2)}, {doorAt(0, 23, 1, 2)}, {doorAt(0, 0, 1, 2), doorAt(1, airways, 1, 2)}, {doorAt(0, airways, 1, 2), doorAt(1, 0, 1, 2)},
		// Two doors in one airway.
		doorsIn(0, 0), doorsIn(last, last), doorsIn(0, 1, 0), doorsIn(1, 0, 0), doorsIn(2, 1, 2),
		// Ids in no order, and one twice.
		{doorAt(1, 0, 1, 2), doorAt(0, 1, 1, 2)}, {doorAt(1, 0, 1, 2), doorAt(1, 1, 1, 2)}, {doorAt(0, 2, 1, 2), doorAt(2, 1, 1, 2), doorAt(1, 0, 1, 2)},
		{{Id: "a10", Airway: 0, Open: 1, Shut: 1}, {Id: "a1", Airway: 1, Open: 1, Shut: 1}}, {{Id: "a9", Airway: 0, Open: 1, Shut: 1}, {Id: "a10", Airway: 1, Open: 1, Shut: 1}},
	}
	for _, d := range invalidDoors() {
		lists = append(lists, []impl.Door{d}, []impl.Door{{Id: "a", Open: 1, Shut: 1}, d}, []impl.Door{d, {Id: "z", Open: 1, Shut: 1}})
	}
	return lists
}

func TestValidDoors(t *testing.T) {
	for _, s := range randomSites() {
		if !impl.ValidDoors(s.m, s.doors) {
			t.Errorf("%v are not valid in %v", s.doors, s.m)
		}
	}
	for _, m := range []impl.Mine{triangle(), fork(), line(), mineOf(2, slices.Repeat([][2]int64{{1, 0}}, 23)...)} {
		for _, doors := range invalidDoorLists(int64(len(m.Airways))) {
			if impl.ValidDoors(m, doors) {
				t.Errorf("%v are valid in %v", doors, m)
			}
		}
	}
	for _, m := range invalidMines() {
		for _, doors := range [][]impl.Door{nil, {}, doorsIn(0)} {
			if impl.ValidDoors(m, doors) {
				t.Errorf("%v are valid in %v", doors, m)
			}
		}
	}
	for _, c := range []struct {
		m     impl.Mine
		doors []impl.Door
		want  bool
	}{
		{impl.Mine{Junctions: 1}, nil, true},
		{impl.Mine{Junctions: 1}, []impl.Door{}, true},
		{impl.Mine{Junctions: 1}, doorsIn(0), false},
		{loop(), []impl.Door{mainDoor()}, true},
		{loop(), doorsIn(1, 0), true},
		{loop(), doorsIn(0, 2), false},
		{triangle(), doorsIn(0, 2), true},
		{grid(), doorsIn(23, 0, 22, 1, 21, 2, 20, 3), true},
		{grid(), doorsIn(0, 1, 2, 3, 4, 5, 6, 7, 8), false},
		{grid(), doorsIn(0, 1, 2, 3, 4, 5, 6, 0), false},
		{triangle(), []impl.Door{{Id: "a1", Airway: 2, Open: 1, Shut: 1}, {Id: "a10", Airway: 1, Open: 1, Shut: 1}, {Id: "a2", Airway: 0, Open: 1, Shut: 1}}, true},
	} {
		if got := impl.ValidDoors(c.m, c.doors); got != c.want {
			t.Errorf("ValidDoors of %v is %v", c, got)
		}
	}
}

func wantOpen(s site) outcome {
	var list []int64
	for _, a := range s.m.Airways {
		list = append(list, wantQuotient(a, a.Section))
	}
	for i, d := range s.doors {
		if s.states[i] {
			list[d.Airway] += d.Open
		} else {
			list[d.Airway] += d.Shut
		}
	}
	if !from(1, 1000000, list...) {
		return nothing(impl.ErrState)
	}
	return listed(list, impl.OK)
}

func TestOpenDoors(t *testing.T) {
	codes := map[int64]int{}
	for _, s := range randomSites() {
		want := wantOpen(s)
		codes[want.code]++
		expectOutcome(t, listed(impl.OpenDoors(s.m, s.doors, s.states)), want, "OpenDoors", s)
	}
	if codes[impl.OK] < 500 || codes[impl.ErrState] < 50 {
		t.Errorf("the codes are %v", codes)
	}
}

// TestOpeningDoorsNeverAddsResistance covers P11 for doors.
func TestOpeningDoorsNeverAddsResistance(t *testing.T) {
	less := 0
	for _, s := range randomSites() {
		before, code := impl.OpenDoors(s.m, s.doors, s.states)
		for i := range s.doors {
			if s.states[i] {
				continue
			}
			opened := slices.Clone(s.states)
			opened[i] = true
			after, codeAfter := impl.OpenDoors(s.m, s.doors, opened)
			if code == impl.OK && codeAfter != impl.OK {
				t.Errorf("%v have the code %d, and with the door %d open %d", s, code, i, codeAfter)
			}
			if code != impl.OK || codeAfter != impl.OK {
				continue
			}
			for k := range after {
				if after[k] > before[k] || after[k] != before[k] && int64(k) != s.doors[i].Airway {
					t.Errorf("in %v with the door %d open the airway %d has %d instead of %d", s, i, k, after[k], before[k])
				}
				if after[k] < before[k] {
					less++
				}
			}
		}
	}
	if less < 500 {
		t.Errorf("only %d resistances become less", less)
	}
}

func TestOpenDoorsByHand(t *testing.T) {
	// The airways of these mines have the resistance 12648.
	most := func(open, shut int64) []impl.Door { return []impl.Door{doorAt(0, 1, open, shut)} }
	narrow := loop()
	narrow.Airways[0].Section, narrow.Airways[0].Length = 50, 10000
	for _, c := range []struct {
		s    site
		want outcome
	}{
		{site{loop(), []impl.Door{mainDoor()}, []bool{true}}, listed([]int64{12648, 12658}, impl.OK)},
		{site{loop(), []impl.Door{mainDoor()}, []bool{false}}, listed([]int64{12648, 17648}, impl.OK)},
		{site{loop(), doorsIn(1, 0), []bool{true, false}}, listed([]int64{13648, 12649}, impl.OK)},
		{site{loop(), doorsIn(1, 0), []bool{false, true}}, listed([]int64{12659, 13648}, impl.OK)},
		{site{loop(), nil, nil}, listed([]int64{12648, 12648}, impl.OK)},
		{site{impl.Mine{Junctions: 1}, nil, nil}, nothing(impl.OK)},
		{site{impl.Mine{Junctions: 1}, nil, []bool{true}}, nothing(impl.ErrOrder)},
		{site{loop(), nil, []bool{false}}, nothing(impl.ErrOrder)},
		{site{loop(), []impl.Door{mainDoor()}, nil}, nothing(impl.ErrOrder)},
		{site{loop(), []impl.Door{mainDoor()}, []bool{true, true}}, nothing(impl.ErrOrder)},
		// MaxResistance is reached, and passed by one.
		{site{loop(), most(1, 987352), []bool{false}}, listed([]int64{12648, 1000000}, impl.OK)},
		{site{loop(), most(1, 987353), []bool{false}}, nothing(impl.ErrState)},
		{site{loop(), most(1, 987353), []bool{true}}, listed([]int64{12648, 12649}, impl.OK)},
		{site{loop(), most(987352, 1000000), []bool{true}}, listed([]int64{12648, 1000000}, impl.OK)},
		{site{loop(), most(987353, 1000000), []bool{true}}, nothing(impl.ErrState)},
		// A resistance without a door may be too great as well.
		{site{narrow, nil, nil}, nothing(impl.ErrState)},
		{site{narrow, most(1, 2), []bool{true}}, nothing(impl.ErrState)},
		{site{narrow, most(1, 2), nil}, nothing(impl.ErrOrder)},
		{site{narrow, doorsIn(0, 0), nil}, nothing(impl.ErrInvalid)},
		{site{impl.Mine{}, nil, nil}, nothing(impl.ErrInvalid)},
	} {
		expectOutcome(t, listed(impl.OpenDoors(c.s.m, c.s.doors, c.s.states)), c.want, "OpenDoors", c.s)
	}
}

// goodSites returns sites for which OpenDoors returns OK.
func goodSites() []site {
	return []site{
		{triangle(), doorsIn(2, 0), []bool{false, true}},
		{fork(), doorsIn(1), []bool{false}},
		{line(), doorsIn(7, 6, 5, 4, 3, 2, 1, 0), slices.Repeat([]bool{true}, 8)},
	}
}

func faultsOfSite(s site) []fault[site] {
	ofMine := faultOfMine("OpenDoors", func(s *site, m impl.Mine) { s.m = m })
	ofDoors := fault[site]{argument: "doors", code: impl.ErrInvalid, in: "OpenDoors"}
	for _, list := range invalidDoorLists(int64(len(s.m.Airways))) {
		ofDoors.changes = append(ofDoors.changes, func(s *site) { s.doors = list })
	}
	ofStates := fault[site]{argument: "states", code: impl.ErrOrder, in: "OpenDoors"}
	for _, count := range []int{0, len(s.states) - 1, len(s.states) + 1, 1000} {
		ofStates.changes = append(ofStates.changes, func(s *site) { s.states = make([]bool, count) })
	}
	narrow := fault[site]{argument: "m", code: impl.ErrState, in: "OpenDoors"}
	for k := range s.m.Airways {
		narrow.changes = append(narrow.changes, func(s *site) {
			s.m.Airways = slices.Clone(s.m.Airways)
			s.m.Airways[k].Section, s.m.Airways[k].Length = 50, 10000
		})
	}
	tooMuch := fault[site]{argument: "doors", code: impl.ErrState, in: "OpenDoors"}
	for i := range s.doors {
		tooMuch.changes = append(tooMuch.changes, func(s *site) {
			s.doors = slices.Clone(s.doors)
			s.doors[i].Open, s.doors[i].Shut = 1000000, 1000000
		})
	}
	return []fault[site]{ofMine, ofDoors, ofStates, narrow, tooMuch}
}

func TestErrorsOfOpenDoors(t *testing.T) {
	for _, good := range goodSites() {
		expectErrors(t, good, siteOutcomes, faultsOfSite(good))
	}
}

// TestRegulatorsAreJustEnough covers P11 for regulators: with one less the drop is too small.
func TestRegulatorsAreJustEnough(t *testing.T) {
	codes := map[int64]int{}
	for _, resistance := range resistances() {
		for _, flow := range append(around(100000), 7, 70, 1000, 10000, 31622, 70711) {
			drops := append(around(1000000), 7, 100, 2500, 500000)
			if from(1, 1000000, resistance) && from(1, 100000, flow) {
				for _, r := range []int64{1, resistance, 1000000} {
					n := wantDrop(r, flow)
					drops = append(drops, n-1, n, n+1)
				}
			}
			for _, drop := range drops {
				got := answerOf(impl.RegulatorFor(resistance, flow, drop))
				codes[got.code]++
				switch {
				case !from(1, 1000000, resistance) || !from(1, 100000, flow) || !from(0, 1000000, drop):
					expect(t, got, failed(impl.ErrRange), "RegulatorFor", resistance, flow, drop)
				case wantDrop(1000000, flow) < drop:
					expect(t, got, failed(impl.ErrNotFound), "RegulatorFor", resistance, flow, drop)
				case got.code != impl.OK || !from(0, 1000000-resistance, got.value) || wantDrop(resistance+got.value, flow) < drop:
					t.Errorf("RegulatorFor of %d, %d and %d: %v", resistance, flow, drop, got)
				case got.value > 0 && wantDrop(resistance+got.value-1, flow) >= drop:
					t.Errorf("RegulatorFor of %d, %d and %d: %v, but less is enough", resistance, flow, drop, got)
				}
			}
		}
	}
	if codes[impl.OK] < 300 || codes[impl.ErrNotFound] < 300 {
		t.Errorf("the codes are %v", codes)
	}
}

func TestRegulatorsByHand(t *testing.T) {
	for _, c := range []struct {
		resistance, flow, drop int64
		want                   answer
	}{
		{10000, 10000, 150, answer{4950, impl.OK}},
		{10000, 10000, 100, answer{0, impl.OK}},
		{10000, 10000, 99, answer{0, impl.OK}},
		{10000, 10000, 101, answer{50, impl.OK}},
		// A half is rounded away from 0, so that 50 are enough for 1.
		{49, 10000, 1, answer{1, impl.OK}},
		{50, 10000, 1, answer{0, impl.OK}},
		{1, 10000, 1, answer{49, impl.OK}},
		{1, 10000, 0, answer{0, impl.OK}},
		{1000000, 1, 0, answer{0, impl.OK}},
		// The greatest drop of a flow of 10000 is 10000.
		{1, 10000, 10000, answer{999949, impl.OK}},
		{1, 10000, 10001, failed(impl.ErrNotFound)},
		{1000000, 10000, 10000, answer{0, impl.OK}},
		{1000000, 10000, 10001, failed(impl.ErrNotFound)},
		{999950, 10000, 10000, answer{0, impl.OK}},
		{999949, 10000, 10000, answer{1, impl.OK}},
		{1, 100000, 1000000, answer{999999, impl.OK}},
		{1000000, 100000, 1000000, answer{0, impl.OK}},
		{999999, 100000, 1000000, answer{1, impl.OK}},
		{1, 99999, 999980, answer{999999, impl.OK}},
		{1, 99999, 999981, failed(impl.ErrNotFound)},
		{10000, 1, 100, failed(impl.ErrNotFound)},
		{1000000, 70, 1, failed(impl.ErrNotFound)},
		{1000000, 71, 1, answer{0, impl.OK}},
		// Numbers that are not as stated come before a regulator that there is not.
		{0, 1, 1000000, failed(impl.ErrRange)},
		{1000001, 1, 1000000, failed(impl.ErrRange)},
		{1, 0, 1000000, failed(impl.ErrRange)},
		{1, -1, 1000000, failed(impl.ErrRange)},
		{1, -10000, 0, failed(impl.ErrRange)},
		{1, 100001, 0, failed(impl.ErrRange)},
		{1, 1, 1000001, failed(impl.ErrRange)},
		{1, 1, -1, failed(impl.ErrRange)},
	} {
		expect(t, answerOf(impl.RegulatorFor(c.resistance, c.flow, c.drop)), c.want, "RegulatorFor", c.resistance, c.flow, c.drop)
	}
}

func wantShare(a, b int64) int64 {
	root := func(n int64) int64 { return new(big.Int).Sqrt(big.NewInt(1000000 * n)).Int64() }
	return quotient(1000*root(b), root(a)+root(b))
}

// sharers returns resistances for shares.
func sharers() []int64 {
	return append(around(1000000), 2, 3, 7, 99, 100, 101, 225, 400, 1000, 63240, 159201, 500000, 998001)
}

func TestShareBeside(t *testing.T) {
	for _, a := range sharers() {
		last := int64(1000)
		for _, b := range sharers() {
			want := failed(impl.ErrRange)
			if from(1, 1000000, a, b) {
				want = answer{wantShare(a, b), impl.OK}
			}
			expect(t, answerOf(impl.ShareBeside(a, b)), want, "ShareBeside", a, b)
		}
		// With more resistance the share becomes no greater.
		for n := int64(1); n <= 1000000; n = 2*n + 1 {
			got := answerOf(impl.ShareBeside(n, 400))
			if got.code != impl.OK || got.value > last {
				t.Errorf("the share of %d is %v, after %d", n, got, last)
			}
			last = got.value
		}
	}
	for _, c := range []struct{ a, b, want int64 }{
		{100, 400, 667}, {400, 100, 333}, {1, 1, 500}, {1000000, 1000000, 500}, {1, 1000000, 999}, {1000000, 1, 1}, {2, 1, 414}, {1, 2, 586},
		// 62.5, 937.5 and 2.5 are rounded up, and 998.004 down.
		{225, 1, 63}, {1, 225, 938}, {159201, 1, 3}, {1, 250000, 998},
	} {
		expect(t, answerOf(impl.ShareBeside(c.a, c.b)), answer{c.want, impl.OK}, "ShareBeside", c.a, c.b)
	}
}

// TestRegulatorsForSharesAreJustEnough covers P11 for the regulators of shares.
func TestRegulatorsForSharesAreJustEnough(t *testing.T) {
	codes := map[int64]int{}
	for _, a := range sharers() {
		for _, b := range sharers() {
			shares := append(around(999), 2, 50, 250, 499, 500, 501, 750)
			if from(1, 1000000, a, b) {
				n := wantShare(a, b)
				shares = append(shares, n-1, n, n+1, wantShare(1000000, b), wantShare(1000000, b)-1)
			}
			for _, share := range shares {
				got := answerOf(impl.RegulatorForShare(a, b, share))
				codes[got.code]++
				switch {
				case !from(1, 1000000, a, b) || !from(1, 999, share):
					expect(t, got, failed(impl.ErrRange), "RegulatorForShare", a, b, share)
				case wantShare(1000000, b) > share:
					expect(t, got, failed(impl.ErrNotFound), "RegulatorForShare", a, b, share)
				case got.code != impl.OK || !from(0, 1000000-a, got.value) || wantShare(a+got.value, b) > share:
					t.Errorf("RegulatorForShare of %d, %d and %d: %v", a, b, share, got)
				case got.value > 0 && wantShare(a+got.value-1, b) <= share:
					t.Errorf("RegulatorForShare of %d, %d and %d: %v, but less is enough", a, b, share, got)
				}
			}
		}
	}
	if codes[impl.OK] < 300 || codes[impl.ErrNotFound] < 300 {
		t.Errorf("the codes are %v", codes)
	}
}

func TestRegulatorsForSharesByHand(t *testing.T) {
	for _, c := range []struct {
		a, b, share int64
		want        answer
	}{
		{100, 100, 500, answer{0, impl.OK}},
		{100, 100, 999, answer{0, impl.OK}},
		{100, 100, 499, answer{1, impl.OK}},
		{1, 1, 1, answer{443112, impl.OK}},
		{443113, 1, 1, answer{0, impl.OK}},
		{1, 1000000, 999, answer{0, impl.OK}},
		{1, 1000000, 500, answer{996007, impl.OK}},
		{996008, 1000000, 500, answer{0, impl.OK}},
		{996007, 1000000, 500, answer{1, impl.OK}},
		{1, 1000000, 499, failed(impl.ErrNotFound)},
		{1000000, 1000000, 500, answer{0, impl.OK}},
		{1000000, 1000000, 499, failed(impl.ErrNotFound)},
		{1, 1000000, 1, failed(impl.ErrNotFound)},
		// Numbers that are not as stated come before a regulator that there is not.
		{0, 1000000, 1, failed(impl.ErrRange)},
		{1, 1000001, 1, failed(impl.ErrRange)},
		{1000001, 1, 1, failed(impl.ErrRange)},
		{1, 0, 1, failed(impl.ErrRange)},
		{1, 1000000, 0, failed(impl.ErrRange)},
		{1, 1000000, -1, failed(impl.ErrRange)},
		{1, 1000000, 1000, failed(impl.ErrRange)},
	} {
		expect(t, answerOf(impl.RegulatorForShare(c.a, c.b, c.share)), c.want, "RegulatorForShare", c.a, c.b, c.share)
	}
}

// pairsOf returns all pairs of so many doors, in lexicographic order.
func pairsOf(doors int64) [][]int64 {
	var list [][]int64
	for a := range doors {
		for b := a + 1; b < doors; b++ {
			list = append(list, []int64{a, b})
		}
	}
	return list
}

// chain returns locks of each door with the next one.
func chain(doors int64) [][]int64 {
	var list [][]int64
	for a := range doors - 1 {
		list = append(list, []int64{a, a + 1})
	}
	return list
}

// cube returns as many locks as allowed, along the edges of a cube.
func cube() [][]int64 {
	return [][]int64{{0, 1}, {0, 2}, {0, 4}, {1, 3}, {1, 5}, {2, 3}, {2, 6}, {3, 7}, {4, 5}, {4, 6}, {5, 7}, {6, 7}}
}

// someLocks returns at most as many pairs as allowed, in their order.
func someLocks(random *rand.Rand, doors int64) [][]int64 {
	pairs := pairsOf(doors)
	random.Shuffle(len(pairs), func(i, j int) { pairs[i], pairs[j] = pairs[j], pairs[i] })
	list := pairs[:random.Intn(min(12, len(pairs))+1)]
	slices.SortFunc(list, slices.Compare)
	return list
}

// interlock is a number of doors with locks.
type interlock struct {
	doors int64
	locks [][]int64
}

// validInterlocks returns all locks of up to 4 doors, those at the limits, and many at random.
func validInterlocks() []interlock {
	list := []interlock{{8, chain(8)}, {8, cube()}, {8, pairsOf(8)[:12]}, {8, pairsOf(8)[16:]}, {8, [][]int64{{6, 7}}}, {7, cube()[:7]}}
	for doors := range int64(9) {
		list = append(list, interlock{doors, nil}, interlock{doors, [][]int64{}})
	}
	for doors := range int64(5) {
		pairs := pairsOf(doors)
		for bits := range 1 << len(pairs) {
			var locks [][]int64
			for i, pair := range pairs {
				if bits>>i&1 == 1 {
					locks = append(locks, pair)
				}
			}
			list = append(list, interlock{doors, locks})
		}
	}
	random := rand.New(rand.NewSource(12))
	for range 60 {
		doors := random.Int63n(9)
		list = append(list, interlock{doors, someLocks(random, doors)})
	}
	return list
}

// invalidInterlocks returns locks each of which breaks one rule, of numbers of doors that may be.
func invalidInterlocks() []interlock {
	list := []interlock{
		// Doors that there are not.
		{0, [][]int64{{0, 1}}}, {1, [][]int64{{0, 1}}}, {2, [][]int64{{0, 2}}}, {2, [][]int64{{1, 2}}}, {7, [][]int64{{0, 7}}}, {8, [][]int64{{0, 8}}}, {8, [][]int64{{7, 8}}},
		{2, [][]int64{{-1, 0}}}, {2, [][]int64{{-1, 1}}}, {2, [][]int64{{math.MinInt64, 1}}}, {2, [][]int64{{0, math.MaxInt64}}}, {7, cube()},
		// The greater one first, or the same twice.
		{2, [][]int64{{1, 0}}}, {8, [][]int64{{7, 0}}}, {2, [][]int64{{0, 0}}}, {2, [][]int64{{1, 1}}}, {1, [][]int64{{0, 0}}},
		// No pairs.
		{3, [][]int64{nil}}, {3, [][]int64{{}}}, {3, [][]int64{{0}}}, {3, [][]int64{{0, 1, 2}}}, {0, [][]int64{nil}}, {0, [][]int64{{0}}}, {3, [][]int64{{0, 1}, {0}}}, {3, [][]int64{{0, 1}, nil}},
		// In no order, and one twice.
		{3, [][]int64{{0, 1}, {0, 1}}}, {3, [][]int64{{1, 2}, {0, 1}}}, {3, [][]int64{{0, 2}, {0, 1}}}, {3, [][]int64{{1, 2}, {0, 2}}}, {3, [][]int64{{0, 1}, {1, 2}, {0, 2}}},
		{3, [][]int64{{0, 1}, {1, 2}, {1, 2}}}, {4, [][]int64{{0, 3}, {1, 2}, {0, 1}}},
		// One too many.
		{8, pairsOf(8)[:13]}, {8, pairsOf(8)[15:]}, {8, pairsOf(8)}, {8, make([][]int64, 1000)}, {8, slices.Repeat([][]int64{{0, 1}}, 1000)},
	}
	return list
}

func TestValidLocks(t *testing.T) {
	for _, k := range validInterlocks() {
		if !impl.ValidLocks(k.doors, k.locks) {
			t.Errorf("%v are not valid", k)
		}
		for _, doors := range []int64{math.MinInt64, -1, 9, math.MaxInt64} {
			if impl.ValidLocks(doors, k.locks) {
				t.Errorf("%v are valid for %d doors", k.locks, doors)
			}
		}
	}
	for _, k := range invalidInterlocks() {
		if impl.ValidLocks(k.doors, k.locks) {
			t.Errorf("%v are valid", k)
		}
	}
	// All lists of two pairs.
	for doors := range int64(4) {
		for n := range 625 {
			a, b, c, d := int64(n%5)-1, int64(n/5%5)-1, int64(n/25%5)-1, int64(n/125)-1
			ordered := a < c || a == c && b < d
			want := 0 <= a && a < b && b < doors && 0 <= c && c < d && d < doors && ordered
			if got := impl.ValidLocks(doors, [][]int64{{a, b}, {c, d}}); got != want {
				t.Errorf("ValidLocks of %d and the pairs %d %d and %d %d is %v", doors, a, b, c, d, got)
			}
		}
	}
}

// statesOf returns all lists of so many states.
func statesOf(doors int64) [][]bool {
	var list [][]bool
	for bits := range 1 << doors {
		states := make([]bool, doors)
		for door := range states {
			states[door] = bits>>door&1 == 1
		}
		list = append(list, states)
	}
	return list
}

func keepsLocks(states []bool, locks [][]int64) bool {
	for _, lock := range locks {
		if states[lock[0]] && states[lock[1]] {
			return false
		}
	}
	return true
}

func TestStatesThatKeepLocks(t *testing.T) {
	for _, k := range validInterlocks() {
		count := int64(0)
		for _, states := range statesOf(k.doors) {
			want := keepsLocks(states, k.locks)
			if want {
				count++
			}
			if got := impl.AreLocked(states, k.locks); got != want {
				t.Errorf("AreLocked of %v and %v is %v", states, k.locks, got)
			}
		}
		expect(t, answerOf(impl.CountStates(k.doors, k.locks)), answer{count, impl.OK}, "CountStates", k)
	}
	for _, k := range invalidInterlocks() {
		if impl.AreLocked(make([]bool, k.doors), k.locks) {
			t.Errorf("no open door keeps %v", k)
		}
		expect(t, answerOf(impl.CountStates(k.doors, k.locks)), failed(impl.ErrInvalid), "CountStates", k)
	}
	// More doors than may be, and numbers of doors that come before the locks.
	for _, count := range []int{9, 10, 64, 1000} {
		for _, locks := range [][][]int64{nil, {{0, 1}}, {{0, 8}}, {{1, 0}}} {
			if impl.AreLocked(make([]bool, count), locks) {
				t.Errorf("%d states keep %v", count, locks)
			}
		}
	}
	for _, doors := range []int64{math.MinInt64, -1, 9, 64, math.MaxInt64} {
		for _, k := range append(validInterlocks(), invalidInterlocks()...) {
			expect(t, answerOf(impl.CountStates(doors, k.locks)), failed(impl.ErrRange), "CountStates", doors, k.locks)
		}
	}
}

func TestCountsByHand(t *testing.T) {
	for _, c := range []struct {
		doors int64
		locks [][]int64
		want  int64
	}{
		{0, nil, 1}, {1, nil, 2}, {8, nil, 256}, {2, [][]int64{{0, 1}}, 3}, {3, [][]int64{{0, 1}}, 6}, {4, pairsOf(4), 5},
		// Numbers of Fibonacci, and the sets of corners of a cube without neighbours.
		{3, chain(3), 5}, {8, chain(8), 55}, {8, cube(), 35},
		// Door 0 alone, or all others as they may be.
		{8, pairsOf(8)[:7], 129},
	} {
		expect(t, answerOf(impl.CountStates(c.doors, c.locks)), answer{c.want, impl.OK}, "CountStates", c.doors, c.locks)
	}
}

func different(a, b []bool) int {
	count := 0
	for i := range a {
		if a[i] != b[i] {
			count++
		}
	}
	return count
}

// firstMoves goes through all lists of so many moves in lexicographic order and returns the first one that leads to an end.
// It passes over lists that cannot, because each move changes one door only.
func firstMoves(locks [][]int64, here, to []bool, count int) ([]int64, bool) {
	if count == 0 {
		return nil, slices.Equal(here, to)
	}
	for door := range here {
		next := slices.Clone(here)
		next[door] = !next[door]
		if !keepsLocks(next, locks) || different(next, to) > count-1 {
			continue
		}
		if rest, ok := firstMoves(locks, next, to, count-1); ok {
			return append([]int64{int64(door)}, rest...), true
		}
	}
	return nil, false
}

func wantMoves(locks [][]int64, from, to []bool) []int64 {
	for count := 0; ; count++ {
		if list, ok := firstMoves(locks, from, to, count); ok {
			return list
		}
	}
}

// locksAndEnds are arguments of FewestMoves.
type locksAndEnds struct {
	locks    [][]int64
	from, to []bool
}

// validEnds returns pairs of states that keep their locks: all of few doors, and some of many.
func validEnds() []locksAndEnds {
	random := rand.New(rand.NewSource(13))
	var list []locksAndEnds
	for _, k := range validInterlocks() {
		var kept [][]bool
		for _, states := range statesOf(k.doors) {
			if keepsLocks(states, k.locks) {
				kept = append(kept, states)
			}
		}
		for _, a := range kept {
			for _, b := range kept {
				if len(kept) <= 16 || random.Intn(len(kept)*len(kept)) < 60 {
					list = append(list, locksAndEnds{k.locks, a, b})
				}
			}
		}
	}
	return list
}

func movesOutcomes(e locksAndEnds) map[string]outcome {
	return map[string]outcome{"FewestMoves": listed(impl.FewestMoves(e.locks, e.from, e.to))}
}

// TestMovesKeepAllLocks covers P11 for moves, and that no shorter or earlier list does.
func TestMovesKeepAllLocks(t *testing.T) {
	moved, unsorted := 0, 0
	for _, e := range validEnds() {
		got := listed(impl.FewestMoves(e.locks, e.from, e.to))
		here := slices.Clone(e.from)
		for _, door := range got.list {
			here[door] = !here[door]
			if !impl.AreLocked(here, e.locks) {
				t.Errorf("the moves %v of %v lead to %v", got, e, here)
			}
		}
		if !slices.Equal(here, e.to) || len(got.list) != different(e.from, e.to) {
			t.Errorf("the moves %v of %v lead to %v", got, e, here)
		}
		expectOutcome(t, got, listed(wantMoves(e.locks, e.from, e.to), impl.OK), "FewestMoves", e)
		moved += len(got.list)
		if !slices.IsSorted(got.list) {
			unsorted++
		}
	}
	if moved < 10000 || unsorted < 1000 {
		t.Errorf("only %d moves, and %d lists that locks change", moved, unsorted)
	}
}

func statesFor(s string) []bool {
	var states []bool
	for _, letter := range s {
		states = append(states, letter == 'o')
	}
	return states
}

func TestMovesByHand(t *testing.T) {
	one := [][]int64{{0, 1}}
	for _, c := range []struct {
		locks    [][]int64
		from, to string
		want     outcome
	}{
		// The document's example, and the same the other way round.
		{one, "ox", "xo", listed([]int64{0, 1}, impl.OK)},
		{one, "xo", "ox", listed([]int64{1, 0}, impl.OK)},
		{nil, "xo", "ox", listed([]int64{0, 1}, impl.OK)},
		{one, "ox", "ox", listed(nil, impl.OK)},
		{one, "xx", "xx", listed(nil, impl.OK)},
		{nil, "", "", listed(nil, impl.OK)},
		{[][]int64{}, "o", "o", listed(nil, impl.OK)},
		{nil, "x", "o", listed([]int64{0}, impl.OK)},
		{nil, "xxxxxxxx", "oooooooo", listed([]int64{0, 1, 2, 3, 4, 5, 6, 7}, impl.OK)},
		{nil, "oxoxoxox", "xoxoxoxo", listed([]int64{0, 1, 2, 3, 4, 5, 6, 7}, impl.OK)},
		{[][]int64{{0, 1}, {1, 2}}, "oxo", "xox", listed([]int64{0, 2, 1}, impl.OK)},
		{[][]int64{{0, 1}, {1, 2}}, "xox", "oxo", listed([]int64{1, 0, 2}, impl.OK)},
		{[][]int64{{0, 3}, {1, 2}}, "xxoo", "ooxx", listed([]int64{2, 1, 3, 0}, impl.OK)},
		{[][]int64{{0, 2}, {1, 3}}, "xxoo", "ooxx", listed([]int64{2, 0, 3, 1}, impl.OK)},
		{[][]int64{{0, 7}}, "xxxxxxxo", "oxxxoxxx", listed([]int64{4, 7, 0}, impl.OK)},
		{chain(8), "xoxoxoxo", "oxoxoxox", listed([]int64{1, 0, 3, 2, 5, 4, 7, 6}, impl.OK)},
		{chain(8), "oxoxoxox", "xoxoxoxo", listed([]int64{0, 2, 1, 4, 3, 6, 5, 7}, impl.OK)},
		{cube(), "oxxoxoox", "xooxoxxo", listed([]int64{0, 3, 5, 1, 6, 2, 4, 7}, impl.OK)},
		// A door that stays open keeps its lock.
		{[][]int64{{0, 1}, {0, 2}}, "xxo", "xoo", listed([]int64{1}, impl.OK)},
		{[][]int64{{0, 1}, {0, 2}}, "xxo", "ooo", nothing(impl.ErrInvalid)},
		// Ends that do not keep a lock, and locks that are none, come before lengths.
		{one, "oo", "xx", nothing(impl.ErrInvalid)},
		{one, "xx", "oo", nothing(impl.ErrInvalid)},
		{one, "oo", "oo", nothing(impl.ErrInvalid)},
		{one, "oo", "xxx", nothing(impl.ErrInvalid)},
		{one, "xxx", "oo", nothing(impl.ErrInvalid)},
		{one, "x", "x", nothing(impl.ErrInvalid)},
		{one, "x", "xx", nothing(impl.ErrInvalid)},
		{one, "xx", "x", nothing(impl.ErrInvalid)},
		{one, "", "xx", nothing(impl.ErrInvalid)},
		{[][]int64{{1, 0}}, "xx", "xx", nothing(impl.ErrInvalid)},
		{nil, "xxxxxxxxx", "xxxxxxxxx", nothing(impl.ErrInvalid)},
		{nil, "xxxxxxxx", "xxxxxxxxx", nothing(impl.ErrInvalid)},
		{nil, "xxxxxxxxx", "x", nothing(impl.ErrInvalid)},
		{one, "xx", "xxx", nothing(impl.ErrState)},
		{one, "oxo", "xo", nothing(impl.ErrState)},
		{nil, "", "x", nothing(impl.ErrState)},
		{nil, "xxxxxxxx", "", nothing(impl.ErrState)},
		{nil, "o", "oo", nothing(impl.ErrState)},
	} {
		expectOutcome(t, listed(impl.FewestMoves(c.locks, statesFor(c.from), statesFor(c.to))), c.want, "FewestMoves", c)
	}
}

func faultsOfEnds(e locksAndEnds) []fault[locksAndEnds] {
	noLocks := fault[locksAndEnds]{argument: "locks", code: impl.ErrInvalid, in: "FewestMoves"}
	for _, k := range invalidInterlocks() {
		if k.doors == int64(len(e.from)) {
			noLocks.changes = append(noLocks.changes, func(e *locksAndEnds) { e.locks = k.locks })
		}
	}
	tooMany := slices.Repeat([]bool{false}, 9)
	allOpen := slices.Repeat([]bool{true}, len(e.from))
	longer := make([]bool, len(e.from)+1)
	return []fault[locksAndEnds]{
		noLocks,
		{"from", impl.ErrInvalid, "FewestMoves", []func(e *locksAndEnds){
			func(e *locksAndEnds) { e.from = allOpen }, func(e *locksAndEnds) { e.from = nil }, func(e *locksAndEnds) { e.from = tooMany },
		}},
		{"to", impl.ErrInvalid, "FewestMoves", []func(e *locksAndEnds){
			func(e *locksAndEnds) { e.to = allOpen }, func(e *locksAndEnds) { e.to = nil }, func(e *locksAndEnds) { e.to = tooMany },
		}},
		{"from", impl.ErrState, "FewestMoves", []func(e *locksAndEnds){func(e *locksAndEnds) { e.from = longer }}},
		{"to", impl.ErrState, "FewestMoves", []func(e *locksAndEnds){func(e *locksAndEnds) { e.to = longer }}},
	}
}

func TestErrorsOfFewestMoves(t *testing.T) {
	for _, good := range []locksAndEnds{
		{[][]int64{{0, 1}}, []bool{true, false}, []bool{false, true}},
		{[][]int64{{0, 1}, {1, 2}}, []bool{true, false, true}, []bool{false, true, false}},
		{chain(7), make([]bool, 7), statesFor("oxoxoxo")},
	} {
		faults := faultsOfEnds(good)
		expectErrors(t, good, movesOutcomes, faults[:3])
		expectErrors(t, good, movesOutcomes, append(slices.Clone(faults[:2]), faults[4]))
		expectErrors(t, good, movesOutcomes, []fault[locksAndEnds]{faults[0], faults[2], faults[3]})
	}
}

func statesText(states []bool) string {
	letters := []byte(strings.Repeat("x", len(states)))
	for i, isOpen := range states {
		if isOpen {
			letters[i] = 'o'
		}
	}
	return string(letters)
}

func TestStatesAreReadBack(t *testing.T) {
	for doors := range int64(9) {
		for _, states := range statesOf(doors) {
			s := statesText(states)
			if got := impl.StatesText(states); got != s {
				t.Errorf("StatesText(%v) = %q", states, got)
			}
			if got, ok := impl.ReadStates(s); !ok || !slices.Equal(got, states) {
				t.Errorf("ReadStates(%q) = %v, %v", s, got, ok)
			}
		}
	}
	if s := impl.StatesText([]bool{true, false, false}); s != "oxx" {
		t.Errorf("one open and two shut doors have the text %q", s)
	}
	if got, ok := impl.ReadStates(""); !ok || len(got) != 0 {
		t.Errorf("no letters are read as %v, %v", got, ok)
	}
	for _, count := range []int{9, 10, 64, 1000, 100000} {
		for _, isOpen := range []bool{true, false} {
			states := slices.Repeat([]bool{isOpen}, count)
			if s := impl.StatesText(states); s != "" {
				t.Errorf("%d doors have the text %.30q", count, s)
			}
			if got, ok := impl.ReadStates(statesText(states)); ok || got != nil {
				t.Errorf("%d doors are read as %v, %v", count, got, ok)
			}
		}
	}
}

func TestReadStatesTakesCanonicalTextsOnly(t *testing.T) {
	texts := append(oddTexts()[1:], "oy", "yo", "OX", "O", "X", "o x", "ox ", " ox", "o,x", "ox\n", "ox\x00", "0", "1", "true", "-", "oxoxoxoxo", "oxoxoxox ", " oxoxoxox", "o\u0078\u0301", "\u043e", "\u0445")
	for _, s := range texts {
		if got, ok := impl.ReadStates(s); ok || got != nil {
			t.Errorf("ReadStates(%.30q) = %v, %v, want nil and false", s, got, ok)
		}
	}
	// Every other byte at every place.
	for b := range 256 {
		letter := string([]byte{byte(b)})
		for _, before := range []string{"", "o", "x", "oxoxoxo"} {
			for _, behind := range []string{"", "o", "x", "xoxoxox"} {
				s := before + letter + behind
				want := (b == 'o' || b == 'x') && len(s) <= 8
				if got, ok := impl.ReadStates(s); ok != want || !want && got != nil || want && impl.StatesText(got) != s {
					t.Errorf("ReadStates(%q) = %v, %v", s, got, ok)
				}
			}
		}
	}
}

func doorText(d impl.Door) string { return fmt.Sprintf("%s %d,%d,%d", d.Id, d.Airway, d.Open, d.Shut) }

func TestDoorsAreReadBack(t *testing.T) {
	for _, d := range validDoors() {
		s := impl.DoorText(d)
		if s != doorText(d) {
			t.Errorf("DoorText(%v) = %q", d, s)
		}
		if got, ok := impl.ReadDoor(s); got != d || !ok {
			t.Errorf("ReadDoor(%q) = %v, %v", s, got, ok)
		}
	}
	if s := impl.DoorText(mainDoor()); s != "d 1,10,5000" {
		t.Errorf("%v has the text %q", mainDoor(), s)
	}
	for _, d := range invalidDoors() {
		if s := impl.DoorText(d); s != "" {
			t.Errorf("DoorText(%v) = %q", d, s)
		}
		if got, ok := impl.ReadDoor(doorText(d)); ok || got != (impl.Door{}) {
			t.Errorf("ReadDoor(%q) = %v, %v", doorText(d), got, ok)
		}
	}
}

func TestReadDoorTakesCanonicalTextsOnly(t *testing.T) {
	texts := append(oddTexts(), "d", "d ", "d -", "d 1", "d 1,10", "d 1,10,5000,0", "d 1,10,5000,", "d ,1,10,5000", "d  1,10,5000", " d 1,10,5000", "d 1,10,5000 ", "d 1,10,5000\n",
		"d\t1,10,5000", "d,1,10,5000", "1,10,5000", " 1,10,5000", "D 1,10,5000", "1d 1,10,5000", "d 01,10,5000", "d +1,10,5000", "d -1,10,5000", "d -0,10,5000", "d 1, 10,5000", "d 1 10 5000",
		"d 1,10,x", "d 1,,5000", "d 1,10,5000 d", "d d 1,10,5000", "d 1.0,10,5000", "d 1,5000,10", "d 1000000000000000000,10,5000", "abcdefghijk 1,10,5000", "d 1,10,"+strings.Repeat("1", 1000), strings.Repeat("a", 1000)+" 1,10,5000")
	for _, s := range texts {
		if got, ok := impl.ReadDoor(s); ok || got != (impl.Door{}) {
			t.Errorf("ReadDoor(%.30q) = %v, %v, want the zero Door and false", s, got, ok)
		}
	}
}

// lockResults returns what all functions of chapter 10 with locks or states return.
func lockResults(doors int64, e locksAndEnds) []any {
	return []any{
		impl.ValidLocks(doors, e.locks), impl.AreLocked(e.from, e.locks), impl.AreLocked(e.to, e.locks), answerOf(impl.CountStates(doors, e.locks)),
		fmt.Sprint(impl.FewestMoves(e.locks, e.from, e.to)), impl.StatesText(e.from), impl.StatesText(e.to),
	}
}

// doorResults returns what all functions of chapter 10 with a mine return.
func doorResults(s site) []any {
	return []any{impl.ValidDoors(s.m, s.doors), fmt.Sprint(impl.OpenDoors(s.m, s.doors, s.states))}
}

// wildEnds returns locks and states far beyond what any of them may be.
func wildEnds() []locksAndEnds {
	wild := []int64{math.MinInt64, math.MaxInt64}
	all := [][]int64{nil, {}, wild, {0}, {0, 1, 2}, slices.Repeat(wild, 50), {-1, 1}, {0, 8}, {63, 64}, {1, 0}, {0, 0}}
	list := []locksAndEnds{{}, {all, nil, nil}, {slices.Repeat(all, 100), make([]bool, 100000), make([]bool, 99999)}}
	for _, lock := range all {
		for _, count := range []int{0, 1, 2, 8, 9, 63, 64, 65} {
			list = append(list, locksAndEnds{[][]int64{lock}, make([]bool, count), slices.Repeat([]bool{true}, count)})
			list = append(list, locksAndEnds{[][]int64{{0, 1}, lock}, make([]bool, count), make([]bool, 2)})
		}
	}
	return list
}

func wildSites() []site {
	wild := impl.Mine{Junctions: math.MaxInt64, Airways: make([]impl.Airway, 1000)}
	list := []site{{}, {wild, make([]impl.Door, 1000), make([]bool, 1000)}, {loop(), nil, make([]bool, 100000)}, {wild, doorsIn(0), []bool{true}}}
	for _, n := range edgeNumbers() {
		list = append(list, site{loop(), []impl.Door{doorAt(0, n, 1, 2)}, []bool{true}}, site{loop(), []impl.Door{doorAt(0, 1, n, n)}, []bool{true}})
		list = append(list, site{loop(), []impl.Door{doorAt(0, 1, n, 1000000)}, []bool{true}}, site{loop(), []impl.Door{doorAt(0, 0, 1, n), doorAt(1, 1, -n, n)}, []bool{false, true}})
	}
	return list
}

func TestDoorsReturnTheSameForAllArguments(t *testing.T) {
	sites := append(append(randomSites(), wildSites()...), goodSites()...)
	for _, good := range goodSites() {
		sites = append(sites, faulty(good, faultsOfSite(good))...)
	}
	for _, s := range sites {
		twice(t, "the functions of doors", func() []any { return doorResults(s) })
		one := s
		one.m.Airways, one.doors, one.states = append([]impl.Airway{}, s.m.Airways...), append([]impl.Door{}, s.doors...), append([]bool{}, s.states...)
		if a, b := doorResults(s), doorResults(one); !reflect.DeepEqual(a, b) {
			t.Errorf("the results for %v depend on where it lies", s)
		}
	}
	for i, e := range append(validEnds(), wildEnds()...) {
		if i%7 == 0 || i < 100 || len(e.from) > 8 || len(e.from) != len(e.to) {
			twice(t, "the functions of locks", func() []any { return lockResults(int64(len(e.from)), e) })
		}
	}
	numbers := edgeNumbers()
	for _, a := range numbers {
		twice(t, "the functions of locks and a number", func() []any {
			return append(lockResults(a, locksAndEnds{[][]int64{{0, a}}, make([]bool, 2), make([]bool, 2)}), lockResults(2, locksAndEnds{[][]int64{{a, 1}}, make([]bool, 2), make([]bool, 2)})...)
		})
		for _, b := range numbers {
			twice(t, "ShareBeside", func() []any {
				return []any{answerOf(impl.ShareBeside(a, b)), impl.DoorText(doorAt(0, a, b, b)), impl.ValidDoor(doorAt(0, 0, a, b))}
			})
			for _, c := range []int64{math.MinInt64, -1, 0, 1, 500, 999, 1000, 1000000, math.MaxInt64} {
				twice(t, "the functions of regulators", func() []any {
					return []any{answerOf(impl.RegulatorFor(a, b, c)), answerOf(impl.RegulatorFor(a, c, b)), answerOf(impl.RegulatorForShare(a, b, c)), answerOf(impl.RegulatorForShare(c, a, b))}
				})
			}
		}
	}
	for _, s := range append(oddTexts(), "ox", "oxoxoxoxo", "oy", "d 1,10,5000", "d 1,10,9", strings.Repeat("o", 100000)) {
		twice(t, "ReadStates and ReadDoor", func() []any {
			states, ok := impl.ReadStates(s)
			d, is := impl.ReadDoor(s)
			return []any{states, ok, d, is}
		})
	}
	a, b := lockResults(0, locksAndEnds{}), lockResults(0, locksAndEnds{[][]int64{}, []bool{}, []bool{}})
	if !reflect.DeepEqual(a, b) {
		t.Errorf("no states have %v as nil, and else %v", a, b)
	}
}

func TestDoorsModifyNoArgument(t *testing.T) {
	for _, s := range append(append(randomSites(), wildSites()...), goodSites()...) {
		airways, allAirways := roomyList(s.m.Airways, airwayBetween(77, 1, 0))
		doors, allDoors := roomyList(s.doors, doorAt(7, 1, 2, 3))
		states, allStates := roomyList(s.states, true)
		before := fmt.Sprint(allAirways, allDoors, allStates)
		doorResults(site{impl.Mine{Junctions: s.m.Junctions, Airways: airways}, doors, states})
		if after := fmt.Sprint(allAirways, allDoors, allStates); after != before {
			t.Errorf("%s becomes %s", before, after)
		}
	}
	for i, e := range append(wildEnds(), validEnds()...) {
		if i%7 != 0 && i > 300 {
			continue
		}
		locks, allLocks := roomyList(e.locks, []int64{6, 7})
		for i, lock := range allLocks {
			allLocks[i], _ = roomyList(lock, -77)
		}
		first, allFirst := roomyList(e.from, true)
		second, allSecond := roomyList(e.to, true)
		room := func() string {
			var rows [][]int64
			for _, lock := range allLocks {
				rows = append(rows, lock[:cap(lock)])
			}
			return fmt.Sprint(rows, allFirst, allSecond)
		}
		before := room()
		lockResults(int64(len(first)), locksAndEnds{locks, first, second})
		if after := room(); after != before {
			t.Errorf("%.300s becomes %.300s", before, after)
		}
	}
}

func TestDoorsReturnNewMemory(t *testing.T) {
	for _, s := range append(randomSites(), goodSites()...) {
		before, want := fmt.Sprint(s), doorResults(s)
		list, _ := impl.OpenDoors(s.m, s.doors, s.states)
		spoil(list, 77)
		if fmt.Sprint(s) != before || !reflect.DeepEqual(doorResults(s), want) {
			t.Errorf("results for %s share memory", before)
		}
	}
	for i, e := range validEnds() {
		if i%7 != 0 {
			continue
		}
		before, want := fmt.Sprint(e), lockResults(int64(len(e.from)), e)
		list, _ := impl.FewestMoves(e.locks, e.from, e.to)
		spoil(list, 77)
		if fmt.Sprint(e) != before || !reflect.DeepEqual(lockResults(int64(len(e.from)), e), want) {
			t.Errorf("results for %s share memory", before)
		}
	}
	for _, s := range []string{"", "o", "oxoxoxox"} {
		states, _ := impl.ReadStates(s)
		spoil(states, true)
		if again, _ := impl.ReadStates(s); impl.StatesText(again) != s {
			t.Errorf("ReadStates returns %v for %q after a change", again, s)
		}
	}
}
