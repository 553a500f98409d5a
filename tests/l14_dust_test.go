package tests

import (
	"fmt"
	"math"
	"math/big"
	"math/rand"
	"reflect"
	"slices"
	"strings"
	"testing"

	"loop.example/g01021/impl"
)

// The declarations of chapter 14, which must keep their types.
var (
	_ func(impl.Dusting) bool                                                                               = impl.ValidDusting
	_ func([]impl.Dusting) bool                                                                             = impl.ValidDustings
	_ func(rate, flow int64) (dust, code int64)                                                             = impl.DustOf
	_ func(dust, settling, time int64) (left, code int64)                                                   = impl.SettledAfter
	_ func(list []int64, rates []int64, settling int64) ([]int64, int64)                                    = impl.DustAlong
	_ func(list []impl.Dusting, airway, minute int64) (dust, code int64)                                    = impl.DustAt
	_ func(list []impl.Dusting, stays [][]int64) (exposure, code int64)                                     = impl.ExposureOf
	_ func(list []impl.Dusting, airway int64) (minute, dust, code int64)                                    = impl.WorstMinute
	_ func(list []impl.Dusting, airway, from, limit int64) (minutes, code int64)                            = impl.LongestStay
	_ func(list []impl.Dusting, stays [][]int64, factor, limit, budget int64) (indices []int64, code int64) = impl.FewestMasks
	_ func(impl.Dusting) string                                                                             = impl.DustingText
	_ func(string) (impl.Dusting, bool)                                                                     = impl.ReadDusting
	_ [impl.MaxDustings]struct{}                                                                            = [12]struct{}{}
	_ [impl.MaxDust]struct{}                                                                                = [1000000]struct{}{}
	_ [impl.MaxShift]struct{}                                                                               = [1440]struct{}{}
	_                                                                                                       = impl.Dusting{Airway: int64(0), From: int64(0), Until: int64(0), Dust: int64(0)}
)

func task(airway, from, until, dust int64) impl.Dusting {
	return impl.Dusting{Airway: airway, From: from, Until: until, Dust: dust}
}

// twoTasks are those of the document's example, and are for a part of their time at the same time.
func twoTasks() []impl.Dusting { return []impl.Dusting{task(0, 0, 10, 100), task(0, 5, 20, 50)} }

// validTasks returns tasks at each limit, and ordinary ones.
func validTasks() []impl.Dusting {
	return []impl.Dusting{
		task(0, 5, 20, 50), task(0, 0, 1, 0), task(23, 1439, 1440, 1000000), task(0, 0, 1440, 1000000), task(23, 0, 1440, 0), task(7, 1438, 1439, 1), task(22, 1, 2, 999999), task(1, 1438, 1440, 5),
	}
}

// invalidTasks returns tasks each of which breaks one rule.
func invalidTasks() []impl.Dusting {
	list := []impl.Dusting{{}, task(0, math.MaxInt64, math.MinInt64, 5), task(0, math.MinInt64, math.MaxInt64, 5)}
	for _, n := range []int64{math.MinInt64, -1, 24, 25, math.MaxInt64} {
		list = append(list, task(n, 5, 20, 50))
	}
	for _, n := range []int64{math.MinInt64, -1, 20, 21, 1439, 1440, 1441, math.MaxInt64} {
		list = append(list, task(0, n, 20, 50))
	}
	for _, n := range []int64{math.MinInt64, -1, 0, 4, 5, 1441, math.MaxInt64} {
		list = append(list, task(0, 5, n, 50))
	}
	for _, n := range []int64{math.MinInt64, -1, 1000001, math.MaxInt64} {
		list = append(list, task(0, 5, 20, n))
	}
	return append(list, task(0, 0, 0, 5), task(0, 1440, 1440, 5), task(0, 1440, 1441, 5), task(0, -1, 0, 5), task(0, 1439, 1441, 5), task(0, -1, 1440, 5))
}

func TestValidDusting(t *testing.T) {
	for _, x := range validTasks() {
		if !impl.ValidDusting(x) {
			t.Errorf("%v is not valid", x)
		}
	}
	for _, x := range invalidTasks() {
		if impl.ValidDusting(x) {
			t.Errorf("%v is valid", x)
		}
	}
	for _, from := range around(1440) {
		for _, until := range around(1440) {
			if want := 0 <= from && from < until && until <= 1440; impl.ValidDusting(task(3, from, until, 7)) != want {
				t.Errorf("a task from %d until %d is valid: %v", from, until, !want)
			}
		}
	}
}

// invalidTaskLists returns lists of tasks each of which breaks one rule.
func invalidTaskLists() [][]impl.Dusting {
	good := task(0, 5, 20, 50)
	lists := [][]impl.Dusting{slices.Repeat([]impl.Dusting{good}, 13), slices.Repeat([]impl.Dusting{good}, 1000), make([]impl.Dusting, 12)}
	for _, x := range invalidTasks() {
		lists = append(lists, []impl.Dusting{x}, []impl.Dusting{good, x}, []impl.Dusting{x, good}, append(slices.Repeat([]impl.Dusting{good}, 11), x))
	}
	return lists
}

func TestValidDustings(t *testing.T) {
	for _, list := range [][]impl.Dusting{nil, {}, twoTasks(), validTasks(), slices.Repeat([]impl.Dusting{task(0, 5, 20, 50)}, 12), {task(5, 7, 9, 3), task(2, 0, 1, 3), task(5, 7, 9, 3)}} {
		if !impl.ValidDustings(list) {
			t.Errorf("%v are not valid", list)
		}
	}
	for _, list := range invalidTaskLists() {
		if impl.ValidDustings(list) {
			t.Errorf("%v are valid", list)
		}
	}
}

func isDust(n ...int64) bool { return from(0, 1000000, n...) }

func TestDustOf(t *testing.T) {
	for _, rate := range append(around(1000000, 100000, 10000, 1000), 3, 7, 33, 54321) {
		for _, flow := range append(around(100000, 10000, 1000), 3, 7, 33, 54321) {
			want := failed(impl.ErrRange)
			if isDust(rate) && from(1, 100000, flow) {
				want = answer{min(1000000, quotient(100000*rate, flow)), impl.OK}
			}
			expect(t, answerOf(impl.DustOf(rate, flow)), want, "DustOf", rate, flow)
		}
	}
	for _, c := range []struct {
		rate, flow int64
		want       answer
	}{
		{3, 1000, answer{300, impl.OK}}, {0, 1, answer{0, impl.OK}}, {0, 100000, answer{0, impl.OK}}, {1, 100000, answer{1, impl.OK}}, {999999, 100000, answer{999999, impl.OK}},
		// The nearest number, of two the greater one.
		{1, 30000, answer{3, impl.OK}}, {1, 60000, answer{2, impl.OK}}, {1, 40000, answer{3, impl.OK}}, {3, 40000, answer{8, impl.OK}}, {1, 66667, answer{1, impl.OK}}, {1, 66666, answer{2, impl.OK}},
		// MaxDust is reached, and would be passed.
		{1000000, 100000, answer{1000000, impl.OK}}, {1000000, 99999, answer{1000000, impl.OK}}, {10, 1, answer{1000000, impl.OK}}, {9, 1, answer{900000, impl.OK}}, {11, 1, answer{1000000, impl.OK}}, {1000000, 1, answer{1000000, impl.OK}},
		{1000001, 100000, failed(impl.ErrRange)}, {-1, 5, failed(impl.ErrRange)}, {5, 0, failed(impl.ErrRange)}, {0, 0, failed(impl.ErrRange)}, {5, -1, failed(impl.ErrRange)}, {5, 100001, failed(impl.ErrRange)},
	} {
		expect(t, answerOf(impl.DustOf(c.rate, c.flow)), c.want, "DustOf", c)
	}
}

// wantSettled settles dust with numbers of any size, step by step.
func wantSettled(dust, settling, time int64) int64 {
	for range time {
		lost := new(big.Int).Mul(big.NewInt(dust), big.NewInt(settling))
		less := dust - exactNearest(lost, big.NewInt(1000000)).Int64()
		if less == dust {
			return dust
		}
		dust = less
	}
	return dust
}

func wantSettledAfter(dust, settling, time int64) answer {
	if !isDust(dust, settling) || !from(0, 10000, time) {
		return failed(impl.ErrRange)
	}
	return answer{wantSettled(dust, settling, time), impl.OK}
}

func TestSettledAfter(t *testing.T) {
	dusts, settlings := append(around(1000000, 1000), 3, 499, 500, 54321), append(around(1000000, 500000, 1000), 10, 100, 333333)
	for _, dust := range dusts {
		for _, settling := range settlings {
			for _, time := range append(around(10000), 2, 3, 10, 100, 5000) {
				expect(t, answerOf(impl.SettledAfter(dust, settling, time)), wantSettledAfter(dust, settling, time), "SettledAfter", dust, settling, time)
			}
		}
	}
	for _, c := range []struct {
		dust, settling, time int64
		want                 answer
	}{
		{1000, 100000, 2, answer{810, impl.OK}}, {1000, 100000, 1, answer{900, impl.OK}}, {1000, 100000, 0, answer{1000, impl.OK}}, {1000, 100000, 3, answer{729, impl.OK}},
		// What settles is rounded each second: 72.9 is 73.
		{1000, 100000, 4, answer{656, impl.OK}},
		// A half counts as a whole one, less as nothing.
		{1, 500000, 1, answer{0, impl.OK}}, {1, 499999, 10000, answer{1, impl.OK}}, {5, 100000, 10000, answer{4, impl.OK}}, {4, 100000, 10000, answer{4, impl.OK}}, {5, 100000, 1, answer{4, impl.OK}},
		{1000000, 1, 1, answer{999999, impl.OK}}, {499999, 1, 10000, answer{499999, impl.OK}}, {500000, 1, 1, answer{499999, impl.OK}}, {500000, 1, 2, answer{499999, impl.OK}}, {1000000, 1, 10000, answer{990000, impl.OK}},
		{1000000, 1000000, 1, answer{0, impl.OK}}, {1000000, 1000000, 0, answer{1000000, impl.OK}}, {1000000, 0, 10000, answer{1000000, impl.OK}}, {0, 1000000, 10000, answer{0, impl.OK}},
		{1000, 100000, -1, failed(impl.ErrRange)}, {1000, 100000, 10001, failed(impl.ErrRange)}, {1000, -1, 2, failed(impl.ErrRange)}, {1000, 1000001, 2, failed(impl.ErrRange)}, {-1, 100000, 2, failed(impl.ErrRange)}, {1000001, 100000, 2, failed(impl.ErrRange)},
	} {
		expect(t, answerOf(impl.SettledAfter(c.dust, c.settling, c.time)), c.want, "SettledAfter", c)
	}
}

// TestDustNeverGrowsBySettling covers P15 for dust: more time never leaves more, and none leaves all.
func TestDustNeverGrowsBySettling(t *testing.T) {
	random := rand.New(rand.NewSource(14))
	for range 2000 {
		dust, settling := anyNumbers(random, 1, 0, 1000000)[0], anyNumbers(random, 1, 0, 1000000)[0]
		before := dust
		for time := range int64(30) {
			got := answerOf(impl.SettledAfter(dust, settling, time))
			if got.code != impl.OK || got.value < 0 || got.value > before || time == 0 && got.value != dust {
				t.Errorf("SettledAfter(%d, %d, %d) = %v, and %d a second earlier", dust, settling, time, got, before)
			}
			before = got.value
		}
	}
	for _, w := range validRoads() {
		ends := listed(impl.DustAlong(w.times, w.rates, w.settling))
		comes := int64(0)
		for i, end := range ends.list {
			if comes += w.rates[i]; end < 0 || end > comes || end > 1000000 {
				t.Errorf("DustAlong(%v) = %v, but %d comes into the airway %d", w, ends, comes, i)
			}
			comes = end
		}
	}
}

// road is a way of airways with the times that air needs, and with the dust that comes in.
type road struct {
	times, rates []int64
	settling     int64
}

func roadOutcomes(w road) map[string]outcome {
	return map[string]outcome{"DustAlong": listed(impl.DustAlong(w.times, w.rates, w.settling))}
}

// validRoads returns ways at each limit, and many at random.
func validRoads() []road {
	most := slices.Repeat([]int64{1000000}, 24)
	list := []road{
		{}, {[]int64{}, nil, 1000000}, {nil, []int64{}, 0}, {make([]int64, 24), most, 0}, {slices.Repeat([]int64{10000}, 24), most, 1}, {slices.Repeat([]int64{1}, 24), most, 1000000},
	}
	random := rand.New(rand.NewSource(1014))
	for i := range 1000 {
		count := random.Intn(25)
		times := anyNumbers(random, count, 0, []int64{10, 300, 10000}[i%3])
		list = append(list, road{times, anyNumbers(random, count, 0, 1000000), anyNumbers(random, 1, 0, []int64{1000000, 100000, 1000}[random.Intn(3)])[0]})
	}
	return list
}

func wantRoad(w road) outcome {
	dust, ends := int64(0), []int64{}
	for i, time := range w.times {
		dust = wantSettled(min(dust+w.rates[i], 1000000), w.settling, time)
		ends = append(ends, dust)
	}
	return listed(ends, impl.OK)
}

func TestDustAlong(t *testing.T) {
	for _, w := range validRoads() {
		expectOutcome(t, roadOutcomes(w)["DustAlong"], wantRoad(w), "DustAlong", w)
	}
	most := slices.Repeat([]int64{1000000}, 24)
	for _, c := range []struct {
		w    road
		want outcome
	}{
		{road{[]int64{0, 1}, []int64{100, 50}, 100000}, listed([]int64{100, 135}, impl.OK)},
		{road{[]int64{1, 0}, []int64{100, 50}, 100000}, listed([]int64{90, 140}, impl.OK)},
		{road{[]int64{2, 0, 1}, []int64{1000, 0, 0}, 100000}, listed([]int64{810, 810, 729}, impl.OK)},
		// What comes is at most MaxDust before it settles.
		{road{[]int64{0, 1}, []int64{1000000, 1000000}, 100000}, listed([]int64{1000000, 900000}, impl.OK)},
		{road{[]int64{0, 0}, []int64{999999, 2}, 100000}, listed([]int64{999999, 1000000}, impl.OK)},
		{road{[]int64{0, 0}, []int64{999999, 1}, 0}, listed([]int64{999999, 1000000}, impl.OK)},
		{road{[]int64{1, 1, 10000}, []int64{5, 7, 9}, 1000000}, listed([]int64{0, 0, 0}, impl.OK)},
		{road{make([]int64, 24), most, 0}, listed(most, impl.OK)},
		{road{nil, nil, 0}, nothing(impl.OK)},
		{road{nil, nil, 1000000}, nothing(impl.OK)},
		{road{nil, nil, 1000001}, nothing(impl.ErrRange)},
		{road{nil, nil, -1}, nothing(impl.ErrRange)},
		{road{make([]int64, 25), make([]int64, 25), 0}, nothing(impl.ErrRange)},
		{road{make([]int64, 24), make([]int64, 25), 0}, nothing(impl.ErrRange)},
		{road{make([]int64, 25), make([]int64, 24), 0}, nothing(impl.ErrRange)},
		{road{[]int64{1}, nil, 0}, nothing(impl.ErrRange)},
		{road{nil, []int64{1}, 0}, nothing(impl.ErrRange)},
		{road{[]int64{10001}, []int64{1}, 0}, nothing(impl.ErrRange)},
		{road{[]int64{1}, []int64{1000001}, 0}, nothing(impl.ErrRange)},
	} {
		expectOutcome(t, roadOutcomes(c.w)["DustAlong"], c.want, "DustAlong", c.w)
	}
}

func goodRoads() []road {
	return []road{{[]int64{0, 1}, []int64{100, 50}, 100000}, {slices.Repeat([]int64{10000}, 24), slices.Repeat([]int64{1000000}, 24), 1000000}, {}}
}

func faultsOfRoad(w road) []fault[road] {
	return []fault[road]{
		faultOfLists("times", impl.ErrRange, "DustAlong", wrongLists(w.times, 0, 10000), func(w *road, list []int64) { w.times = list }),
		faultOfLists("rates", impl.ErrRange, "DustAlong", wrongLists(w.rates, 0, 1000000), func(w *road, list []int64) { w.rates = list }),
		faultOfNumber("settling", "DustAlong", 0, 1000000, func(w *road, n int64) { w.settling = n }),
	}
}

func TestErrorsOfDustAlong(t *testing.T) {
	for _, good := range goodRoads() {
		// Two lists that are wrong by as much would fit each other, so only one of them is wrong at a time.
		faults := faultsOfRoad(good)
		expectErrors(t, good, roadOutcomes, []fault[road]{faults[0], faults[2]})
		expectErrors(t, good, roadOutcomes, []fault[road]{faults[1], faults[2]})
	}
}

// shift is a list of tasks with all other arguments of the functions with tasks.
type shift struct {
	list                        []impl.Dusting
	stays                       [][]int64
	airway, minute, from, limit int64
	factor, budget              int64
}

func shiftOutcomes(s shift) map[string]outcome {
	return map[string]outcome{
		"DustAt":      counted(impl.DustAt(s.list, s.airway, s.minute)),
		"ExposureOf":  counted(impl.ExposureOf(s.list, s.stays)),
		"WorstMinute": paired(impl.WorstMinute(s.list, s.airway)),
		"LongestStay": counted(impl.LongestStay(s.list, s.airway, s.from, s.limit)),
		"FewestMasks": listed(impl.FewestMasks(s.list, s.stays, s.factor, s.limit, s.budget)),
	}
}

// dusts returns the dust of each minute of a shift in an airway.
func dusts(list []impl.Dusting, airway int64) [1440]int64 {
	var minutes [1440]int64
	for _, x := range list {
		for minute := x.From; x.Airway == airway && minute < x.Until; minute++ {
			minutes[minute] += x.Dust
		}
	}
	return minutes
}

// wantExposure returns the exposure of a stay, of which each minute is divided.
func wantExposure(s shift, stay []int64, divisor int64) int64 {
	sum, minutes := int64(0), dusts(s.list, stay[0])
	for _, dust := range minutes[stay[1]:stay[2]] {
		sum += dust / divisor
	}
	return sum
}

// wantMasks tries all sets of stays.
func wantMasks(s shift) outcome {
	var plain, masked []int64
	for _, stay := range s.stays {
		plain, masked = append(plain, wantExposure(s, stay, 1)), append(masked, wantExposure(s, stay, s.factor))
	}
	for i, set := range setsInOrder(all(int64(len(s.stays)))) {
		if int64(i) == s.budget {
			return nothing(impl.ErrFull)
		}
		sum := int64(0)
		for k := range s.stays {
			if slices.Contains(set, int64(k)) {
				sum += masked[k]
			} else {
				sum += plain[k]
			}
		}
		if sum <= s.limit {
			return listed(set, impl.OK)
		}
	}
	return nothing(impl.ErrNotFound)
}

func wantShift(s shift) map[string]outcome {
	minutes := dusts(s.list, s.airway)
	worst := slices.Max(minutes[:])
	exposure := int64(0)
	for _, stay := range s.stays {
		exposure += wantExposure(s, stay, 1)
	}
	longest := int64(0)
	for n := range 1440 - s.from {
		if wantExposure(s, []int64{s.airway, s.from, s.from + n + 1}, 1) > s.limit {
			break
		}
		longest++
	}
	return map[string]outcome{
		"DustAt":      counted(minutes[s.minute], impl.OK),
		"ExposureOf":  counted(exposure, impl.OK),
		"WorstMinute": paired(int64(slices.Index(minutes[:], worst)), worst, impl.OK),
		"LongestStay": counted(longest, impl.OK),
		"FewestMasks": wantMasks(s),
	}
}

// anyTimes returns two different minutes, many of them at an end of the shift.
func anyTimes(random *rand.Rand) (from, until int64) {
	most := []int64{1440, 30, 4}[random.Intn(3)]
	from = random.Int63n(most)
	until = from + 1 + random.Int63n(most-from)
	if random.Intn(3) == 0 {
		from, until = 1440-until, 1440-from
	}
	return from, until
}

func anyShift(random *rand.Rand, airways, most int64) shift {
	s := shift{airway: random.Int63n(airways), factor: anyNumbers(random, 1, 1, 1000)[0], budget: 1 + random.Int63n(100)}
	for _, dust := range anyNumbers(random, random.Intn(13), 0, most) {
		from, until := anyTimes(random)
		s.list = append(s.list, task(random.Int63n(airways), from, until, dust))
	}
	for range random.Intn([]int{4, 7, 13}[random.Intn(3)]) {
		from, until := anyTimes(random)
		s.stays = append(s.stays, []int64{random.Int63n(airways), from, until})
	}
	if random.Intn(2) == 0 {
		s.factor, s.budget = 1+random.Int63n(5), 4096
	}
	s.minute, _ = anyTimes(random)
	s.from, _ = anyTimes(random)
	s.limit = anyLimit(random, s)
	return s
}

// anyLimit returns limits that are reached exactly, and just passed, by the exposure with masks in some stays, or with a part of the first one.
func anyLimit(random *rand.Rand, s shift) int64 {
	limit, wears := int64(0), 1+random.Intn(4)
	for _, stay := range s.stays {
		divisor := int64(1)
		if random.Intn(4) < wears {
			divisor = s.factor
		}
		limit += wantExposure(s, stay, divisor)
	}
	if random.Intn(3) == 0 {
		limit = wantExposure(s, []int64{s.airway, s.from, s.from + 1 + random.Int63n(1440-s.from)}, 1)
	}
	return max(0, limit-int64(random.Intn(2)))
}

func randomShifts() []shift {
	random := rand.New(rand.NewSource(140))
	var list []shift
	for i := range 1500 {
		list = append(list, anyShift(random, []int64{1, 2, 24}[i%3], []int64{1000000, 1000, 20}[random.Intn(3)]))
	}
	return list
}

func TestShifts(t *testing.T) {
	codes, sizes := map[int64]int{}, map[int]int{}
	for i, s := range randomShifts() {
		// The model for longest stays is slow.
		if i%3 > 0 {
			continue
		}
		got, want := shiftOutcomes(s), wantShift(s)
		for name, o := range want {
			expectOutcome(t, got[name], o, name, s)
		}
		masks := got["FewestMasks"]
		codes[masks.code]++
		sizes[len(masks.list)]++
	}
	if codes[impl.OK] < 200 || codes[impl.ErrNotFound] < 30 || codes[impl.ErrFull] < 5 || sizes[1] < 30 || sizes[2] < 10 || sizes[3] < 5 {
		t.Errorf("the codes are %v, and the sizes of sets %v", codes, sizes)
	}
}

// TestLongestStaysAreJustWithinTheirLimits covers P15 for stays: one minute more would be too much, or the shift ends.
func TestLongestStaysAreJustWithinTheirLimits(t *testing.T) {
	exposure := func(s shift, minutes int64) int64 {
		if minutes == 0 {
			return 0
		}
		sum, code := impl.ExposureOf(s.list, [][]int64{{s.airway, s.from, s.from + minutes}})
		if code != impl.OK {
			t.Errorf("ExposureOf %d minutes of %v returns the code %d", minutes, s, code)
		}
		return sum
	}
	passed, ended := 0, 0
	for _, s := range randomShifts() {
		got := answerOf(impl.LongestStay(s.list, s.airway, s.from, s.limit))
		if got.code != impl.OK || !from(0, 1440-s.from, got.value) || exposure(s, got.value) > s.limit {
			t.Errorf("LongestStay of %v: %v", s, got)
			continue
		}
		if s.from+got.value == 1440 {
			ended++
			continue
		}
		passed++
		if exposure(s, got.value+1) <= s.limit {
			t.Errorf("LongestStay of %v: %v, but one minute more is within the limit", s, got)
		}
	}
	if passed < 300 || ended < 300 {
		t.Errorf("%d stays end at their limit, and %d with the shift", passed, ended)
	}
}

func TestDustAtByHand(t *testing.T) {
	edges := []impl.Dusting{task(3, 0, 1, 7), task(3, 1439, 1440, 9), task(23, 0, 1440, 1), task(0, 1, 1439, 20)}
	most := slices.Repeat([]impl.Dusting{task(23, 0, 1440, 1000000)}, 12)
	for _, c := range []struct {
		list           []impl.Dusting
		airway, minute int64
		want           answer
	}{
		// The document's example: two tasks at the same time and place.
		{twoTasks(), 0, 7, answer{150, impl.OK}},
		{twoTasks(), 0, 0, answer{100, impl.OK}}, {twoTasks(), 0, 4, answer{100, impl.OK}}, {twoTasks(), 0, 5, answer{150, impl.OK}}, {twoTasks(), 0, 9, answer{150, impl.OK}},
		{twoTasks(), 0, 10, answer{50, impl.OK}}, {twoTasks(), 0, 19, answer{50, impl.OK}}, {twoTasks(), 0, 20, answer{0, impl.OK}}, {twoTasks(), 1, 7, answer{0, impl.OK}}, {twoTasks(), 23, 7, answer{0, impl.OK}},
		// The first and the last minute.
		{edges, 3, 0, answer{7, impl.OK}}, {edges, 3, 1, answer{0, impl.OK}}, {edges, 3, 1438, answer{0, impl.OK}}, {edges, 3, 1439, answer{9, impl.OK}},
		{edges, 23, 0, answer{1, impl.OK}}, {edges, 23, 1439, answer{1, impl.OK}}, {edges, 0, 0, answer{0, impl.OK}}, {edges, 0, 1, answer{20, impl.OK}}, {edges, 0, 1438, answer{20, impl.OK}}, {edges, 0, 1439, answer{0, impl.OK}},
		{edges, 3, 1440, failed(impl.ErrRange)}, {edges, 3, -1, failed(impl.ErrRange)}, {edges, -1, 0, failed(impl.ErrRange)}, {edges, 24, 0, failed(impl.ErrRange)},
		// The sum may be more than the dust of a task may be.
		{most, 23, 1439, answer{12000000, impl.OK}},
		{nil, 23, 1439, answer{0, impl.OK}}, {nil, 24, 0, failed(impl.ErrRange)}, {nil, 0, 1440, failed(impl.ErrRange)},
		{append(slices.Clone(most), task(0, 0, 1, 0)), 23, 0, failed(impl.ErrInvalid)}, {[]impl.Dusting{{}}, 24, -1, failed(impl.ErrInvalid)},
	} {
		expect(t, answerOf(impl.DustAt(c.list, c.airway, c.minute)), c.want, "DustAt", c)
	}
}

func TestExposureByHand(t *testing.T) {
	edges := []impl.Dusting{task(3, 0, 1, 7), task(3, 1439, 1440, 9)}
	most := slices.Repeat([]impl.Dusting{task(23, 0, 1440, 1000000)}, 12)
	for _, c := range []struct {
		list  []impl.Dusting
		stays [][]int64
		want  answer
	}{
		{twoTasks(), [][]int64{{0, 0, 20}}, answer{1750, impl.OK}},
		{twoTasks(), [][]int64{{0, 0, 1440}}, answer{1750, impl.OK}},
		{twoTasks(), [][]int64{{0, 4, 6}}, answer{250, impl.OK}},
		{twoTasks(), [][]int64{{0, 9, 11}, {0, 19, 21}}, answer{250, impl.OK}},
		// Stays at the same time count both.
		{twoTasks(), [][]int64{{0, 0, 5}, {0, 0, 5}, {0, 2, 3}}, answer{1100, impl.OK}},
		{twoTasks(), [][]int64{{1, 0, 20}, {0, 20, 1440}}, answer{0, impl.OK}},
		{edges, [][]int64{{3, 0, 1}}, answer{7, impl.OK}}, {edges, [][]int64{{3, 1439, 1440}}, answer{9, impl.OK}}, {edges, [][]int64{{3, 1, 1439}}, answer{0, impl.OK}}, {edges, [][]int64{{3, 0, 1440}}, answer{16, impl.OK}},
		{most, slices.Repeat([][]int64{{23, 0, 1440}}, 12), answer{207360000000, impl.OK}},
		{twoTasks(), nil, answer{0, impl.OK}}, {nil, [][]int64{{23, 0, 1440}}, answer{0, impl.OK}}, {nil, nil, answer{0, impl.OK}},
		{twoTasks(), slices.Repeat([][]int64{{0, 0, 1}}, 13), failed(impl.ErrRange)},
		{twoTasks(), [][]int64{{0, 0, 0}}, failed(impl.ErrRange)}, {twoTasks(), [][]int64{{0, 1439, 1441}}, failed(impl.ErrRange)}, {twoTasks(), [][]int64{{24, 0, 1}}, failed(impl.ErrRange)}, {twoTasks(), [][]int64{{0, 1}}, failed(impl.ErrRange)}, {twoTasks(), [][]int64{nil}, failed(impl.ErrRange)},
		{[]impl.Dusting{{}}, [][]int64{{0, 0, 0}}, failed(impl.ErrInvalid)},
	} {
		expect(t, answerOf(impl.ExposureOf(c.list, c.stays)), c.want, "ExposureOf", c)
	}
}

func TestWorstMinuteByHand(t *testing.T) {
	for _, c := range []struct {
		list   []impl.Dusting
		airway int64
		want   outcome
	}{
		{twoTasks(), 0, paired(5, 150, impl.OK)},
		// Without dust the first minute is as bad as all.
		{twoTasks(), 1, paired(0, 0, impl.OK)},
		{nil, 0, paired(0, 0, impl.OK)},
		{nil, 23, paired(0, 0, impl.OK)},
		{[]impl.Dusting{task(2, 3, 9, 0)}, 2, paired(0, 0, impl.OK)},
		{[]impl.Dusting{task(2, 1439, 1440, 1)}, 2, paired(1439, 1, impl.OK)},
		{[]impl.Dusting{task(2, 1439, 1440, 1), task(2, 0, 1, 1)}, 2, paired(0, 1, impl.OK)},
		{[]impl.Dusting{task(2, 1439, 1440, 2), task(2, 0, 1, 1)}, 2, paired(1439, 2, impl.OK)},
		{[]impl.Dusting{task(2, 1438, 1439, 2), task(2, 0, 1440, 1)}, 2, paired(1438, 3, impl.OK)},
		{[]impl.Dusting{task(2, 20, 30, 5), task(2, 10, 15, 5), task(1, 0, 5, 9)}, 2, paired(10, 5, impl.OK)},
		{slices.Repeat([]impl.Dusting{task(23, 7, 1440, 1000000)}, 12), 23, paired(7, 12000000, impl.OK)},
		{twoTasks(), 24, nothing(impl.ErrRange)},
		{twoTasks(), -1, nothing(impl.ErrRange)},
		{[]impl.Dusting{{}}, -1, nothing(impl.ErrInvalid)},
	} {
		expectOutcome(t, paired(impl.WorstMinute(c.list, c.airway)), c.want, "WorstMinute", c)
	}
}

func TestLongestStayByHand(t *testing.T) {
	last := []impl.Dusting{task(3, 1439, 1440, 9), task(3, 0, 1, 7)}
	most := slices.Repeat([]impl.Dusting{task(23, 0, 1440, 1000000)}, 12)
	for _, c := range []struct {
		list                []impl.Dusting
		airway, from, limit int64
		want                answer
	}{
		{twoTasks(), 0, 0, 500, answer{5, impl.OK}}, {twoTasks(), 0, 0, 499, answer{4, impl.OK}}, {twoTasks(), 0, 0, 649, answer{5, impl.OK}}, {twoTasks(), 0, 0, 650, answer{6, impl.OK}},
		{twoTasks(), 0, 0, 1749, answer{19, impl.OK}}, {twoTasks(), 0, 0, 1750, answer{1440, impl.OK}}, {twoTasks(), 0, 0, 99, answer{0, impl.OK}}, {twoTasks(), 0, 0, 100, answer{1, impl.OK}},
		{twoTasks(), 0, 9, 200, answer{2, impl.OK}}, {twoTasks(), 0, 20, 0, answer{1420, impl.OK}}, {twoTasks(), 0, 19, 49, answer{0, impl.OK}}, {twoTasks(), 0, 19, 50, answer{1421, impl.OK}}, {twoTasks(), 1, 0, 0, answer{1440, impl.OK}},
		// The first and the last minute.
		{last, 3, 0, 6, answer{0, impl.OK}}, {last, 3, 0, 7, answer{1439, impl.OK}}, {last, 3, 0, 15, answer{1439, impl.OK}}, {last, 3, 0, 16, answer{1440, impl.OK}},
		{last, 3, 1, 8, answer{1438, impl.OK}}, {last, 3, 1, 9, answer{1439, impl.OK}}, {last, 3, 1439, 8, answer{0, impl.OK}}, {last, 3, 1439, 9, answer{1, impl.OK}}, {last, 3, 1438, 0, answer{1, impl.OK}},
		{last, 2, 1439, 0, answer{1, impl.OK}}, {last, 3, 1440, 9, failed(impl.ErrRange)}, {last, 3, -1, 9, failed(impl.ErrRange)},
		{most, 23, 0, 17280000000, answer{1440, impl.OK}}, {most, 23, 0, 17279999999, answer{1439, impl.OK}}, {most, 23, 1, math.MaxInt64, answer{1439, impl.OK}},
		{nil, 0, 0, 0, answer{1440, impl.OK}}, {nil, 23, 1439, math.MaxInt64, answer{1, impl.OK}},
		{nil, 0, 0, -1, failed(impl.ErrRange)}, {nil, 0, 0, math.MinInt64, failed(impl.ErrRange)}, {nil, 24, 0, 0, failed(impl.ErrRange)}, {nil, -1, 0, 0, failed(impl.ErrRange)},
		{[]impl.Dusting{{}}, -1, -1, -1, failed(impl.ErrInvalid)},
	} {
		expect(t, answerOf(impl.LongestStay(c.list, c.airway, c.from, c.limit)), c.want, "LongestStay", c)
	}
}

func masks(s shift) outcome {
	return listed(impl.FewestMasks(s.list, s.stays, s.factor, s.limit, s.budget))
}

func TestBudgetsOfMasks(t *testing.T) {
	for i, s := range randomShifts() {
		if i%20 != 0 || len(s.stays) > 6 {
			continue
		}
		expectBudgets(t, all(int64(len(s.stays))), func(budget int64) outcome {
			s.budget = budget
			return masks(s)
		}, "FewestMasks", s)
	}
}

func TestMasksByHand(t *testing.T) {
	first, both := [][]int64{{0, 0, 5}}, [][]int64{{0, 0, 5}, {0, 5, 10}}
	// Each minute has the dust 19, of which a mask with the factor 10 leaves 1 for each minute.
	odd := []impl.Dusting{task(4, 0, 1440, 19)}
	// Each of 12 stays in the last minute has the exposure 2, and 1 with a mask.
	last, crowd := []impl.Dusting{task(23, 1439, 1440, 2)}, slices.Repeat([][]int64{{23, 1439, 1440}}, 12)
	for _, c := range []struct {
		list                  []impl.Dusting
		stays                 [][]int64
		factor, limit, budget int64
		want                  outcome
	}{
		// The exposures are 500 and 750, with masks 50 and 75.
		{twoTasks(), both, 10, 1250, 1, listed(nil, impl.OK)},
		{twoTasks(), both, 10, 1249, 100, listed([]int64{0}, impl.OK)},
		{twoTasks(), both, 10, 800, 100, listed([]int64{0}, impl.OK)},
		{twoTasks(), both, 10, 800, 2, listed([]int64{0}, impl.OK)},
		{twoTasks(), both, 10, 800, 1, nothing(impl.ErrFull)},
		{twoTasks(), both, 10, 799, 100, listed([]int64{1}, impl.OK)},
		{twoTasks(), both, 10, 575, 3, listed([]int64{1}, impl.OK)},
		{twoTasks(), both, 10, 575, 2, nothing(impl.ErrFull)},
		{twoTasks(), both, 10, 574, 100, listed([]int64{0, 1}, impl.OK)},
		{twoTasks(), both, 10, 125, 4, listed([]int64{0, 1}, impl.OK)},
		{twoTasks(), both, 10, 125, 3, nothing(impl.ErrFull)},
		{twoTasks(), both, 10, 124, 4, nothing(impl.ErrNotFound)},
		{twoTasks(), both, 10, 124, 3, nothing(impl.ErrFull)},
		{twoTasks(), both, 151, 0, 4, listed([]int64{0, 1}, impl.OK)},
		{twoTasks(), both, 150, 0, 4, nothing(impl.ErrNotFound)},
		{twoTasks(), both, 150, 5, 4, listed([]int64{0, 1}, impl.OK)},
		{twoTasks(), both, 1000, 0, 4, listed([]int64{0, 1}, impl.OK)},
		// With the factor 1 a mask saves nothing.
		{twoTasks(), first, 1, 10, 100, nothing(impl.ErrNotFound)},
		{twoTasks(), first, 1, 499, 2, nothing(impl.ErrNotFound)},
		{twoTasks(), first, 1, 500, 1, listed(nil, impl.OK)},
		{twoTasks(), first, 10, 10, 1, nothing(impl.ErrFull)},
		// Each minute is divided for itself, and all tasks of a minute together.
		{odd, [][]int64{{4, 0, 10}}, 10, 10, 2, listed([]int64{0}, impl.OK)},
		{odd, [][]int64{{4, 0, 10}}, 10, 9, 2, nothing(impl.ErrNotFound)},
		{odd, [][]int64{{4, 1438, 1440}, {4, 0, 1}}, 20, 19, 2, listed([]int64{0}, impl.OK)},
		{[]impl.Dusting{task(4, 0, 1, 19), task(4, 0, 1, 1)}, [][]int64{{4, 0, 1}}, 10, 2, 2, listed([]int64{0}, impl.OK)},
		{[]impl.Dusting{task(4, 0, 1, 19), task(4, 0, 1, 1)}, [][]int64{{4, 0, 1}}, 10, 1, 2, nothing(impl.ErrNotFound)},
		// Of 12 stays there are 1, 12, 66, 220 and 495 sets with 0 to 4 of them, and 4096 in all.
		{last, crowd, 2, 24, 1, listed(nil, impl.OK)}, {last, crowd, 2, 23, 2, listed([]int64{0}, impl.OK)}, {last, crowd, 2, 22, 14, listed([]int64{0, 1}, impl.OK)}, {last, crowd, 2, 22, 13, nothing(impl.ErrFull)},
		{last, crowd, 2, 20, 300, listed([]int64{0, 1, 2, 3}, impl.OK)}, {last, crowd, 2, 20, 299, nothing(impl.ErrFull)},
		{last, crowd, 2, 12, 4096, listed(all(12), impl.OK)}, {last, crowd, 2, 12, 4095, nothing(impl.ErrFull)}, {last, crowd, 2, 11, 4096, nothing(impl.ErrNotFound)}, {last, crowd, 2, 11, 4095, nothing(impl.ErrFull)}, {last, crowd, 3, 0, 20000, listed(all(12), impl.OK)},
		{last, append(slices.Clone(crowd), []int64{0, 0, 1}), 2, 24, 1, nothing(impl.ErrRange)},
		{twoTasks(), both, 10, math.MaxInt64, 1, listed(nil, impl.OK)},
		{twoTasks(), nil, 1, 0, 1, listed(nil, impl.OK)}, {nil, both, 1000, 0, 1, listed(nil, impl.OK)}, {nil, nil, 1, 0, 20000, listed(nil, impl.OK)},
		{twoTasks(), both, 0, 800, 100, nothing(impl.ErrRange)}, {twoTasks(), both, 1001, 800, 100, nothing(impl.ErrRange)}, {twoTasks(), both, 10, -1, 100, nothing(impl.ErrRange)},
		{twoTasks(), both, 10, 800, 0, nothing(impl.ErrRange)}, {twoTasks(), both, 10, 800, 20001, nothing(impl.ErrRange)}, {nil, nil, 1, 0, 0, nothing(impl.ErrRange)}, {nil, nil, 0, 0, 1, nothing(impl.ErrRange)}, {nil, nil, 1, -1, 1, nothing(impl.ErrRange)},
		{[]impl.Dusting{{}}, [][]int64{nil}, 0, -1, 0, nothing(impl.ErrInvalid)},
	} {
		expectOutcome(t, listed(impl.FewestMasks(c.list, c.stays, c.factor, c.limit, c.budget)), c.want, "FewestMasks", c)
	}
}

// goodShifts returns shifts for which all functions return OK.
func goodShifts() []shift {
	return []shift{
		{list: twoTasks(), stays: [][]int64{{0, 0, 5}, {0, 5, 10}}, airway: 0, minute: 7, from: 0, limit: 800, factor: 10, budget: 100},
		{list: slices.Repeat([]impl.Dusting{task(23, 0, 1440, 1000000)}, 12), stays: slices.Repeat([][]int64{{23, 0, 1440}}, 12), airway: 23, minute: 1439, from: 1439, limit: math.MaxInt64, factor: 1000, budget: 20000},
		{factor: 1, budget: 1},
	}
}

// wrongStays returns stays that are not as stated.
func wrongStays() [][][]int64 {
	good := []int64{0, 0, 5}
	lists := [][][]int64{slices.Repeat([][]int64{good}, 13), slices.Repeat([][]int64{good}, 1000), make([][]int64, 12)}
	wrong := [][]int64{nil, {}, {0}, {0, 5}, {0, 0, 5, 6}, make([]int64, 1000)}
	for _, x := range invalidTasks() {
		if wide := task(x.Airway, x.From, x.Until, 50); !impl.ValidDusting(wide) {
			wrong = append(wrong, []int64{x.Airway, x.From, x.Until})
		}
	}
	for _, stay := range wrong {
		lists = append(lists, [][]int64{stay}, [][]int64{good, stay}, [][]int64{stay, good}, append(slices.Repeat([][]int64{good}, 11), stay))
	}
	return lists
}

func faultsOfShift() []fault[shift] {
	ofTasks := fault[shift]{argument: "list", code: impl.ErrInvalid, in: "DustAt ExposureOf WorstMinute LongestStay FewestMasks"}
	for _, list := range invalidTaskLists() {
		ofTasks.changes = append(ofTasks.changes, func(s *shift) { s.list = list })
	}
	ofStays := fault[shift]{argument: "stays", code: impl.ErrRange, in: "ExposureOf FewestMasks"}
	for _, stays := range wrongStays() {
		ofStays.changes = append(ofStays.changes, func(s *shift) { s.stays = stays })
	}
	ofLimit := fault[shift]{argument: "limit", code: impl.ErrRange, in: "LongestStay FewestMasks"}
	for _, n := range []int64{math.MinInt64, -1000, -1} {
		ofLimit.changes = append(ofLimit.changes, func(s *shift) { s.limit = n })
	}
	return []fault[shift]{
		ofTasks,
		ofStays,
		faultOfNumber("airway", "DustAt WorstMinute LongestStay", 0, 23, func(s *shift, n int64) { s.airway = n }),
		faultOfNumber("minute", "DustAt", 0, 1439, func(s *shift, n int64) { s.minute = n }),
		faultOfNumber("from", "LongestStay", 0, 1439, func(s *shift, n int64) { s.from = n }),
		ofLimit,
		faultOfNumber("factor", "FewestMasks", 1, 1000, func(s *shift, n int64) { s.factor = n }),
		faultOfNumber("budget", "FewestMasks", 1, 20000, func(s *shift, n int64) { s.budget = n }),
	}
}

func TestErrorsOfShifts(t *testing.T) {
	for _, good := range goodShifts() {
		expectErrors(t, good, shiftOutcomes, faultsOfShift())
	}
}

func taskText(x impl.Dusting) string {
	return fmt.Sprintf("%d,%d,%d,%d", x.Airway, x.From, x.Until, x.Dust)
}

func TestDustingsAreReadBack(t *testing.T) {
	for _, x := range validTasks() {
		s := impl.DustingText(x)
		if s != taskText(x) {
			t.Errorf("DustingText(%v) = %q", x, s)
		}
		if got, ok := impl.ReadDusting(s); got != x || !ok {
			t.Errorf("ReadDusting(%q) = %v, %v", s, got, ok)
		}
	}
	if s := impl.DustingText(task(0, 5, 20, 50)); s != "0,5,20,50" {
		t.Errorf("the text is %q", s)
	}
	for _, x := range invalidTasks() {
		if s := impl.DustingText(x); s != "" {
			t.Errorf("DustingText(%v) = %q", x, s)
		}
		if got, ok := impl.ReadDusting(taskText(x)); ok || got != (impl.Dusting{}) {
			t.Errorf("ReadDusting(%q) = %v, %v", taskText(x), got, ok)
		}
	}
}

func TestReadDustingTakesCanonicalTextsOnly(t *testing.T) {
	texts := append(oddTexts(), "1", "0,5", "0,5,20", "0,5,20,", ",0,5,20,50", "0,5,20,50,", "0,5,20,50,1", " 0,5,20,50", "0,5,20,50 ", "0,5,20,50\n", "0, 5,20,50", "0 5,20,50", "d 0,5,20,50", "0,5,20,50 d",
		"00,5,20,50", "0,05,20,50", "0,5,020,50", "0,5,20,050", "+0,5,20,50", "0,+5,20,50", "0,5,20,+50", "-0,5,20,50", "0,5,20,-0", "0,5,20,-50", "-1,5,20,50", "0,5,20,5.0", "0,5,20,x", "x,5,20,50", "0,,5,20,50", "0;5;20;50",
		"24,5,20,50", "0,20,20,50", "0,5,1441,50", "0,-1,20,50", "0,5,20,1000001", "0,5,20,1000000000000000000", "0,5,20,"+strings.Repeat("1", 1000), strings.Repeat("0,5,20,50,", 1000))
	for _, s := range texts {
		if got, ok := impl.ReadDusting(s); ok || got != (impl.Dusting{}) {
			t.Errorf("ReadDusting(%.30q) = %v, %v, want the zero Dusting and false", s, got, ok)
		}
	}
}

// shiftResults returns what all functions with tasks return.
func shiftResults(s shift) []any {
	all := []any{impl.ValidDustings(s.list)}
	outcomes := shiftOutcomes(s)
	for _, name := range []string{"DustAt", "ExposureOf", "WorstMinute", "LongestStay", "FewestMasks"} {
		all = append(all, outcomes[name])
	}
	return all
}

// wildShifts returns shifts far beyond what any of them may be.
func wildShifts() []shift {
	list := []shift{{}, {list: make([]impl.Dusting, 100000), stays: make([][]int64, 100000)}, {stays: make([][]int64, 100000), limit: 5, factor: 1, budget: 1}}
	for _, n := range edgeNumbers() {
		list = append(list,
			shift{airway: n, minute: n, from: n, limit: n, factor: n, budget: n, stays: [][]int64{{n, n, n}}},
			shift{list: []impl.Dusting{task(n, n, n, n), task(0, n, -n, n), task(0, 0, 5, n)}, stays: [][]int64{{0, n, 5}}, limit: 5, factor: 1, budget: 1},
			shift{list: twoTasks(), stays: [][]int64{{0, 5, n}, {n, 5, 6}}, airway: 0, minute: 5, from: n, limit: 5, factor: 7, budget: 9},
			shift{list: twoTasks(), stays: [][]int64{{0, 5, 7}, {0, 5, 6}}, airway: 0, minute: n, from: 3, limit: n, factor: 7, budget: 9},
			shift{list: twoTasks(), stays: [][]int64{{0, 5, 7}, {0, 5, 6}}, airway: n, minute: 5, from: 3, limit: 5, factor: n, budget: n},
		)
	}
	return list
}

// manyShifts returns all kinds of shifts.
func manyShifts() []shift {
	list := append(wildShifts(), goodShifts()...)
	for i, s := range randomShifts() {
		if i%10 == 0 {
			list = append(list, s)
		}
	}
	for _, good := range goodShifts() {
		list = append(list, faulty(good, faultsOfShift())...)
	}
	return list
}

// manyRoads returns all kinds of ways.
func manyRoads() []road {
	list := append(append(validRoads(), goodRoads()...), road{edgeNumbers(), edgeNumbers(), 5}, road{make([]int64, 100000), make([]int64, 100000), 5})
	for _, n := range edgeNumbers() {
		list = append(list, road{[]int64{n}, []int64{5}, 5}, road{[]int64{5}, []int64{n}, 5}, road{[]int64{5, 6}, []int64{5, 6}, n}, road{nil, nil, n}, road{[]int64{n}, []int64{n}, n})
	}
	for _, good := range goodRoads() {
		list = append(list, faulty(good, faultsOfRoad(good))...)
	}
	return list
}

func TestDustReturnsTheSameForAllArguments(t *testing.T) {
	for _, s := range manyShifts() {
		twice(t, "the functions of tasks", func() []any { return shiftResults(s) })
	}
	for _, w := range manyRoads() {
		twice(t, "DustAlong", func() []any { return []any{roadOutcomes(w)} })
	}
	numbers := edgeNumbers()
	for _, a := range numbers {
		for _, b := range numbers {
			twice(t, "the functions of dust", func() []any {
				x := task(0, a, b, 5)
				return []any{answerOf(impl.DustOf(a, b)), answerOf(impl.SettledAfter(a, b, 7)), answerOf(impl.SettledAfter(a, 7, b)), answerOf(impl.SettledAfter(7, a, b)), impl.ValidDusting(x), impl.DustingText(x), impl.DustingText(task(a, 0, 5, b))}
			})
		}
	}
	for _, s := range append(oddTexts(), "0,5,20,50", "24,5,20,50", "0,5,5,50") {
		twice(t, "ReadDusting", func() []any { x, ok := impl.ReadDusting(s); return []any{x, ok} })
	}
	for _, s := range []shift{{}, {factor: 1, budget: 1}, {airway: 24, factor: 1001}} {
		empty := s
		empty.list, empty.stays = []impl.Dusting{}, [][]int64{}
		if a, b := fmt.Sprint(shiftResults(s)), fmt.Sprint(shiftResults(empty)); a != b {
			t.Errorf("no tasks and no stays have %v as nil, and else %v", a, b)
		}
	}
}

func TestDustModifiesNoArgument(t *testing.T) {
	for _, s := range manyShifts() {
		list, allTasks := roomyList(s.list, task(7, 1, 2, 3))
		stays, allStays := roomyList(s.stays, []int64{7, 1, 2})
		rooms := [][]int64{}
		for i, stay := range stays {
			used, whole := roomyList(stay, -77)
			stays[i] = used
			rooms = append(rooms, whole)
		}
		before := fmt.Sprint(allTasks, allStays, rooms)
		shiftResults(shift{list, stays, s.airway, s.minute, s.from, s.limit, s.factor, s.budget})
		if after := fmt.Sprint(allTasks, allStays, rooms); after != before {
			t.Errorf("%.300s becomes %.300s", before, after)
		}
	}
	for _, w := range manyRoads() {
		if !untouched(w.times, -77, func(times []int64) { roadOutcomes(road{times, w.rates, w.settling}) }) || !untouched(w.rates, -77, func(rates []int64) { roadOutcomes(road{w.times, rates, w.settling}) }) {
			t.Errorf("%.300v or what lies behind it is changed", w)
		}
	}
}

func TestDustReturnsNewMemory(t *testing.T) {
	for _, s := range manyShifts() {
		before, want := fmt.Sprint(s), shiftResults(s)
		spoil(masks(s).list, 77)
		if fmt.Sprint(s) != before || !reflect.DeepEqual(shiftResults(s), want) {
			t.Errorf("results for %.300s share memory", before)
		}
	}
	for _, w := range validRoads() {
		before, want := fmt.Sprint(w), roadOutcomes(w)
		spoil(roadOutcomes(w)["DustAlong"].list, 77)
		if fmt.Sprint(w) != before || !reflect.DeepEqual(roadOutcomes(w), want) {
			t.Errorf("results for %.300s share memory", before)
		}
	}
}
