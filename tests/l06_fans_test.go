package tests

import (
	"fmt"
	"math"
	"math/rand"
	"reflect"
	"slices"
	"strings"
	"testing"

	"loop.example/g01021/impl"
)

// The declarations of chapter 6, which must keep their types.
var (
	_ func(impl.Fan) bool                            = impl.ValidFan
	_ func([]impl.Fan) bool                          = impl.ValidFans
	_ func(impl.Fan, impl.Fan) bool                  = impl.SameFan
	_ func(impl.Fan, int64) (int64, int64)           = impl.PressureAt
	_ func(impl.Fan) (int64, int64)                  = impl.SurgeFlow
	_ func(impl.Fan, int64) (int64, int64, int64)    = impl.WorkingPoint
	_ func(impl.Fan, int64) (int64, int64)           = impl.FanPower
	_ func(impl.Fan, int64, int64) (impl.Fan, int64) = impl.SpeedFan
	_ func(impl.Fan, impl.Fan) (impl.Fan, int64)     = impl.FansInSeries
	_ func(impl.Fan, impl.Fan) (impl.Fan, int64)     = impl.FansInParallel
	_ func([]impl.Fan, int64, int64) (int64, int64)  = impl.BestFan
	_ func(impl.Fan) string                          = impl.FanText
	_ func(string) (impl.Fan, bool)                  = impl.ReadFan
	_ [impl.MaxPoints]struct{}                       = [8]struct{}{}
	_ [impl.MaxFanPressure]struct{}                  = [10000]struct{}{}
	_ [impl.MaxFans]struct{}                         = [8]struct{}{}
	_                                                = impl.Fan{Id: "", Airway: int64(0), Curve: [][]int64{}}
)

// fanOf returns a fan with the points that numbers tell, a flow and a pressure each.
func fanOf(id string, numbers ...int64) impl.Fan {
	f := impl.Fan{Id: id}
	for i := 0; i < len(numbers); i += 2 {
		f.Curve = append(f.Curve, []int64{numbers[i], numbers[i+1]})
	}
	return f
}

func mainFan() impl.Fan { return fanOf("f", 0, 1000, 10000, 0) }

// steps has two level parts, and begins and ends within the flows.
func steps() impl.Fan { return fanOf("steps", 100, 600, 200, 600, 300, 250, 500, 250, 600, 10) }

// levelFan has the same pressure at all flows.
func levelFan(id string, pressure int64) impl.Fan { return fanOf(id, 0, pressure, 1, pressure) }

// edgeFan falls from one pressure to another one behind a flow.
func edgeFan(id string, flow, pressure, behind int64) impl.Fan {
	return fanOf(id, flow, pressure, flow+1, behind)
}

// stairs has as many points as allowed.
func stairs() impl.Fan {
	return fanOf("stairs", 0, 800, 100, 700, 200, 600, 300, 500, 400, 400, 500, 300, 600, 200, 700, 100)
}

func cloneFan(f impl.Fan) impl.Fan {
	rows := make([][]int64, len(f.Curve))
	for i, row := range f.Curve {
		rows[i] = slices.Clone(row)
	}
	f.Curve = rows
	return f
}

func randomFan(random *rand.Rand) impl.Fan {
	f := impl.Fan{Id: fmt.Sprintf("r%d", random.Intn(1000)), Airway: random.Int63n(24)}
	mostFlow, mostPressure := []int64{10, 2000, 100000}[random.Intn(3)], []int64{3, 500, 10000}[random.Intn(3)]
	flows, pressures := map[int64]bool{}, []int64{}
	for range 2 + random.Intn(7) {
		flows[random.Int63n(mostFlow+1)] = true
	}
	flows[mostFlow/2], flows[mostFlow/2+1] = true, true
	for range flows {
		pressures = append(pressures, random.Int63n(mostPressure+1))
	}
	slices.Sort(pressures)
	slices.Reverse(pressures)
	for flow := range flows {
		f.Curve = append(f.Curve, []int64{flow, 0})
	}
	slices.SortFunc(f.Curve, func(a, b []int64) int { return int(a[0] - b[0]) })
	for i, row := range f.Curve {
		row[1] = pressures[i]
	}
	f.Curve = f.Curve[:min(8, len(f.Curve))]
	return f
}

func randomFans(seed int64, count int) []impl.Fan {
	random := rand.New(rand.NewSource(seed))
	var list []impl.Fan
	for range count {
		list = append(list, randomFan(random))
	}
	return list
}

// chosenFans returns ordinary fans and those at each limit.
func chosenFans() []impl.Fan {
	last := edgeFan("abcdefghij", 99999, 10000, 0)
	last.Airway = 23
	whole := fanOf("whole", 0, 10000, 1, 9999, 2, 9998, 3, 9998, 4, 5, 5, 5, 50000, 1, 100000, 0)
	whole.Airway = 7
	return []impl.Fan{
		mainFan(), steps(), stairs(), last, whole, levelFan("a", 0), levelFan("a1", 1), levelFan("z9", 10000), edgeFan("b", 10, 10000, 0), edgeFan("c", 0, 1, 0),
		fanOf("d", 0, 10000, 100000, 0), fanOf("d", 0, 10000, 100000, 10000), fanOf("e", 0, 1, 100000, 0), fanOf("weak", 0, 500, 10000, 500),
	}
}

// validFans returns fans at each limit, ordinary ones, and many at random.
func validFans() []impl.Fan { return append(chosenFans(), randomFans(6, 150)...) }

// invalidFans returns fans each of which breaks one rule.
func invalidFans() []impl.Fan {
	list := []impl.Fan{{}, {Id: "f"}, {Id: "f", Curve: [][]int64{}}, fanOf("f", 0, 1), fanOf("f", 100000, 0)}
	with := func(change func(f *impl.Fan)) {
		f := steps()
		change(&f)
		list = append(list, f)
	}
	for _, id := range []string{"", "A", "1a", "a b", " a", "a ", "a-b", "abcdefghijk", "a\n", "\xff"} {
		with(func(f *impl.Fan) { f.Id = id })
	}
	for _, n := range []int64{math.MinInt64, -1, 24, math.MaxInt64} {
		with(func(f *impl.Fan) { f.Airway = n })
	}
	for i := range int64(5) {
		for _, row := range [][]int64{nil, {}, {100 * (i + 1)}, {100*(i+1) + 1, 5, 0}, {100*(i+1) + 1, 5, 4, 3}} {
			with(func(f *impl.Fan) { f.Curve[i] = row })
		}
		for _, n := range []int64{math.MinInt64, -1, 100001, math.MaxInt64} {
			with(func(f *impl.Fan) { f.Curve[i][0] = n })
		}
		for _, n := range []int64{math.MinInt64, -1, 10001, math.MaxInt64} {
			with(func(f *impl.Fan) { f.Curve[i][1] = n })
		}
		if i > 0 {
			with(func(f *impl.Fan) { f.Curve[i][0] = f.Curve[i-1][0] })
			with(func(f *impl.Fan) { f.Curve[i][0] = f.Curve[i-1][0] - 1 })
			with(func(f *impl.Fan) { f.Curve[i][1] = f.Curve[i-1][1] + 1 })
		}
	}
	nine := stairs()
	nine.Curve = append(nine.Curve, []int64{800, 100})
	turned := steps()
	slices.Reverse(turned.Curve)
	return append(list, nine, turned, fanOf("f", make([]int64, 2000)...), fanOf("f", -1, 5, 100, 5), fanOf("f", 0, 10001, 1, 10001), fanOf("f", 0, 5, 100001, 5), fanOf("f", 0, 0, 1, -1))
}

// wantPressure is worked out without signs: what the pressure has fallen by since the point in front.
func wantPressure(f impl.Fan, flow int64) int64 {
	for i := len(f.Curve) - 1; i >= 0; i-- {
		left := f.Curve[i]
		if flow < left[0] {
			continue
		}
		if i == len(f.Curve)-1 {
			return left[1]
		}
		right := f.Curve[i+1]
		top, bottom := (left[1]-right[1])*(flow-left[0]), right[0]-left[0]
		return left[1] - (2*top+bottom)/(2*bottom)
	}
	return f.Curve[0][1]
}

// pressuresOf returns the pressures at all flows from 0 to MaxFlow.
func pressuresOf(f impl.Fan) []int64 {
	list := make([]int64, 100001)
	for flow := range list {
		list[flow] = wantPressure(f, int64(flow))
	}
	return list
}

// wantLast returns the greatest flow at which a fan with these pressures has at least what is needed, or -1.
func wantLast(pressures []int64, needed func(flow int64) int64) int64 {
	for flow := int64(100000); flow >= 0; flow-- {
		if pressures[flow] >= needed(flow) {
			return flow
		}
	}
	return -1
}

func wantFlowWith(pressures []int64, pressure int64) int64 {
	return wantLast(pressures, func(int64) int64 { return pressure })
}

// wantWorking rounds its drops without quotient, because it needs so many.
func wantWorking(pressures []int64, resistance int64) (int64, int64) {
	flow := wantLast(pressures, func(flow int64) int64 { return (resistance*flow*flow + 5000000000) / 10000000000 })
	return flow, pressures[flow]
}

// wantFan returns the fan a with other points, or why there is none.
func wantFan(a impl.Fan, points [][]int64) (impl.Fan, int64) {
	if len(points) > 8 {
		return impl.Fan{}, impl.ErrFull
	}
	good := len(points) > 1
	for i, p := range points {
		good = good && from(0, 100000, p[0]) && from(0, 10000, p[1]) && (i == 0 || p[0] > points[i-1][0] && p[1] <= points[i-1][1])
	}
	if !good {
		return impl.Fan{}, impl.ErrState
	}
	return impl.Fan{Id: a.Id, Airway: a.Airway, Curve: points}, impl.OK
}

func wantSpeed(f impl.Fan, num, den int64) (impl.Fan, int64) {
	if !from(1, 100, num, den) {
		return impl.Fan{}, impl.ErrRange
	}
	var points [][]int64
	for _, p := range f.Curve {
		points = append(points, []int64{p[0] * num / den, p[1] * num * num / (den * den)})
	}
	return wantFan(f, points)
}

func wantSeries(a, b impl.Fan) (impl.Fan, int64) {
	var points [][]int64
	for flow := range int64(100001) {
		hasFlow := func(p []int64) bool { return p[0] == flow }
		if slices.ContainsFunc(a.Curve, hasFlow) || slices.ContainsFunc(b.Curve, hasFlow) {
			points = append(points, []int64{flow, wantPressure(a, flow) + wantPressure(b, flow)})
		}
	}
	return wantFan(a, points)
}

func wantParallel(a, b impl.Fan, ofA, ofB []int64) (impl.Fan, int64) {
	var points [][]int64
	for pressure := int64(10000); pressure >= 0; pressure-- {
		hasPressure := func(p []int64) bool { return p[1] == pressure }
		if !slices.ContainsFunc(a.Curve, hasPressure) && !slices.ContainsFunc(b.Curve, hasPressure) {
			continue
		}
		flow := min(100000, max(0, wantFlowWith(ofA, pressure))+max(0, wantFlowWith(ofB, pressure)))
		if !slices.ContainsFunc(points, func(p []int64) bool { return p[0] == flow }) {
			points = append(points, []int64{flow, pressure})
		}
	}
	return wantFan(a, points)
}

func expectFan(t *testing.T, got impl.Fan, code int64, want impl.Fan, wantCode int64, name string, args ...any) {
	t.Helper()
	if code != wantCode || fmt.Sprint(got) != fmt.Sprint(want) {
		t.Errorf("%s of %v: got %v with the code %d, want %v with the code %d", name, args, got, code, want, wantCode)
	}
}

func expectNoFan(t *testing.T, got impl.Fan, code, want int64, name string, args ...any) {
	t.Helper()
	expectFan(t, got, code, impl.Fan{}, want, name, args...)
}

// working is what WorkingPoint returns.
type working struct{ flow, pressure, code int64 }

func workingOf(flow, pressure, code int64) working { return working{flow, pressure, code} }

func expectWorking(t *testing.T, got, want working, name string, args ...any) {
	t.Helper()
	if got != want {
		t.Errorf("%s of %v: got %v, want %v", name, args, got, want)
	}
}

func TestValidFan(t *testing.T) {
	for _, f := range validFans() {
		if !impl.ValidFan(f) {
			t.Errorf("%v is not valid", f)
		}
	}
	for _, f := range invalidFans() {
		if impl.ValidFan(f) {
			t.Errorf("%v is valid", f)
		}
	}
}

// fansNamed returns copies of a fan with Ids in their order.
func fansNamed(f impl.Fan, count int) []impl.Fan {
	var list []impl.Fan
	for i := range count {
		g := cloneFan(f)
		g.Id = fmt.Sprintf("f%d", i)
		list = append(list, g)
	}
	return list
}

// validFanLists returns lists of fans of all lengths, which may stand in the same airway.
func validFanLists() [][]impl.Fan {
	lists := [][]impl.Fan{nil, {}, {levelFan("a", 1), levelFan("a1", 1), levelFan("a10", 1), levelFan("a2", 1), levelFan("b", 1)}}
	for count := range 9 {
		lists = append(lists, fansNamed(mainFan(), count))
	}
	random := rand.New(rand.NewSource(66))
	for range 60 {
		list := fansNamed(mainFan(), random.Intn(9))
		for i := range list {
			f := randomFan(random)
			list[i].Airway, list[i].Curve = f.Airway, f.Curve
		}
		lists = append(lists, list)
	}
	return lists
}

// invalidFanLists returns lists of fans each of which breaks one rule.
func invalidFanLists() [][]impl.Fan {
	full := fansNamed(mainFan(), 8)
	lists := [][]impl.Fan{
		fansNamed(mainFan(), 9), make([]impl.Fan, 1000), {mainFan(), mainFan()}, {levelFan("b", 1), levelFan("a", 1)}, {levelFan("a10", 1), levelFan("a1", 1)},
		append(slices.Clone(full[:6]), levelFan("g", 1), levelFan("f9", 1)), append(slices.Clone(full[:7]), full[6]), append([]impl.Fan{levelFan("g", 1)}, full[1:]...),
	}
	for _, f := range invalidFans() {
		lists = append(lists, []impl.Fan{f}, []impl.Fan{levelFan("a", 1), f}, []impl.Fan{f, levelFan("z", 1)}, append(slices.Clone(full[:7]), f))
	}
	return lists
}

func TestValidFans(t *testing.T) {
	for _, list := range validFanLists() {
		if !impl.ValidFans(list) {
			t.Errorf("%v are not valid", list)
		}
	}
	for _, list := range invalidFanLists() {
		if impl.ValidFans(list) {
			t.Errorf("%v are valid", list)
		}
	}
}

func TestSameFan(t *testing.T) {
	fans := append(chosenFans(), invalidFans()...)
	for i, a := range fans {
		if !impl.SameFan(a, cloneFan(a)) {
			t.Errorf("%v is not the same as itself", a)
		}
		for _, b := range fans[i+1:] {
			// Printed, nil and an empty list are alike.
			if same := fmt.Sprint(a) == fmt.Sprint(b); impl.SameFan(a, b) != same || impl.SameFan(b, a) != same {
				t.Errorf("SameFan(%v, %v) = %v", a, b, impl.SameFan(a, b))
			}
		}
	}
	alike := [][2]impl.Fan{
		{{Curve: nil}, {Curve: [][]int64{}}},
		{{Id: "f", Curve: [][]int64{nil}}, {Id: "f", Curve: [][]int64{{}}}},
		{{Id: "f", Curve: [][]int64{{1, 2}, nil, {3}}}, {Id: "f", Curve: [][]int64{{1, 2}, {}, {3}}}},
	}
	for _, pair := range alike {
		if !impl.SameFan(pair[0], pair[1]) || !impl.SameFan(pair[1], pair[0]) {
			t.Errorf("nil and an empty list make %v another fan", pair[0])
		}
	}
	different := [][2]impl.Fan{
		{{Curve: [][]int64{nil}}, {Curve: nil}},
		{{Curve: [][]int64{{1}}}, {Curve: [][]int64{{1}, {}}}},
		{{Curve: [][]int64{{1, 2, 3}}}, {Curve: [][]int64{{1, 2}, {3}}}},
		{{Curve: [][]int64{{1, 2}, {3, 4}}}, {Curve: [][]int64{{3, 4}, {1, 2}}}},
		{{Curve: [][]int64{{1, 2}}}, {Curve: [][]int64{{1, 2, 0}}}},
		{{Id: "f"}, {Id: "F"}}, {{Airway: 1}, {Airway: -1}},
		{fanOf("f", 0, 5, 9, 1), fanOf("f", 0, 5, 9, 0)}, {fanOf("f", 0, 5, 9, 1), fanOf("f", 0, 5, 8, 1)}, {fanOf("f", 0, 5, 9, 1), fanOf("f", 0, 4, 9, 1)},
	}
	for _, pair := range different {
		if impl.SameFan(pair[0], pair[1]) || impl.SameFan(pair[1], pair[0]) {
			t.Errorf("%v and %v are the same", pair[0], pair[1])
		}
	}
}

func TestInvalidFansComeFirst(t *testing.T) {
	for _, f := range invalidFans() {
		for _, n := range append(around(-100000, 100000, 1000000), 5000) {
			expect(t, answerOf(impl.PressureAt(f, n)), failed(impl.ErrInvalid), "PressureAt", f, n)
			expect(t, answerOf(impl.FanPower(f, n)), failed(impl.ErrInvalid), "FanPower", f, n)
			expectWorking(t, workingOf(impl.WorkingPoint(f, n)), working{0, 0, impl.ErrInvalid}, "WorkingPoint", f, n)
			for _, m := range []int64{0, 1, 100, 101} {
				got, code := impl.SpeedFan(f, n, m)
				expectNoFan(t, got, code, impl.ErrInvalid, "SpeedFan", f, n, m)
			}
		}
		expect(t, answerOf(impl.SurgeFlow(f)), failed(impl.ErrInvalid), "SurgeFlow", f)
		for _, other := range append(chosenFans(), f, impl.Fan{}) {
			for _, pair := range [][2]impl.Fan{{f, other}, {other, f}} {
				got, code := impl.FansInSeries(pair[0], pair[1])
				expectNoFan(t, got, code, impl.ErrInvalid, "FansInSeries", pair)
				got, code = impl.FansInParallel(pair[0], pair[1])
				expectNoFan(t, got, code, impl.ErrInvalid, "FansInParallel", pair)
			}
		}
		if s := impl.FanText(f); s != "" {
			t.Errorf("FanText(%v) = %q", f, s)
		}
	}
	for _, list := range invalidFanLists() {
		for _, n := range []int64{math.MinInt64, -1, 0, 1, 1000000, 1000001} {
			for _, need := range []int64{-1, 0, 100000, 100001} {
				expect(t, answerOf(impl.BestFan(list, n, need)), failed(impl.ErrInvalid), "BestFan", list, n, need)
			}
		}
	}
}

// flowsOfFan returns flows at, before and behind each limit and each point, and some between them.
func flowsOfFan(f impl.Fan) []int64 {
	list := flows()
	for _, p := range f.Curve {
		list = append(list, p[0]-1, p[0], p[0]+1, p[0]+5, p[0]+17)
	}
	for i := range f.Curve[1:] {
		list = append(list, (f.Curve[i][0]+f.Curve[i+1][0])/2)
	}
	return list
}

// TestPressuresNeverGrow covers P7.
func TestPressuresNeverGrow(t *testing.T) {
	for _, f := range validFans() {
		for _, flow := range flowsOfFan(f) {
			if !from(-100000, 100000, flow) {
				expect(t, answerOf(impl.PressureAt(f, flow)), failed(impl.ErrRange), "PressureAt", f, flow)
				expect(t, answerOf(impl.FanPower(f, flow)), failed(impl.ErrRange), "FanPower", f, flow)
				continue
			}
			want := wantPressure(f, flow)
			expect(t, answerOf(impl.PressureAt(f, flow)), answer{want, impl.OK}, "PressureAt", f, flow)
			expect(t, answerOf(impl.FanPower(f, flow)), answer{quotient(want*max(flow, -flow), 100), impl.OK}, "FanPower", f, flow)
		}
	}
	for _, f := range append(chosenFans()[:5], randomFans(7, 5)...) {
		before := f.Curve[0][1]
		for flow := int64(-100000); flow <= 100000; flow++ {
			pressure, code := impl.PressureAt(f, flow)
			if code != impl.OK || pressure > before || pressure != wantPressure(f, flow) {
				t.Fatalf("%v has the pressure %d at %d with the code %d, and %d before it", f, pressure, flow, code, before)
			}
			before = pressure
		}
	}
}

func TestPressuresByHand(t *testing.T) {
	cases := []struct {
		f              impl.Fan
		flow, pressure int64
	}{
		{mainFan(), 5000, 500},
		// The first and the last pressure hold outside of the curve.
		{mainFan(), -100000, 1000}, {mainFan(), -7, 1000}, {mainFan(), 0, 1000}, {mainFan(), 10000, 0}, {mainFan(), 10001, 0}, {mainFan(), 100000, 0},
		{steps(), -100000, 600}, {steps(), 0, 600}, {steps(), 99, 600}, {steps(), 601, 10}, {steps(), 100000, 10},
		// Rounded to the nearest one, and of two to the lesser one.
		{mainFan(), 4, 1000}, {mainFan(), 5, 999}, {mainFan(), 14, 999}, {mainFan(), 15, 998}, {mainFan(), 9994, 1}, {mainFan(), 9995, 0},
		{steps(), 100, 600}, {steps(), 150, 600}, {steps(), 200, 600}, {steps(), 201, 596}, {steps(), 202, 593}, {steps(), 299, 253},
		{steps(), 300, 250}, {steps(), 301, 250}, {steps(), 500, 250}, {steps(), 501, 248}, {steps(), 599, 12}, {steps(), 600, 10},
		{edgeFan("b", 10, 10000, 0), 10, 10000}, {edgeFan("b", 10, 10000, 0), 11, 0}, {levelFan("a", 7), 0, 7}, {levelFan("a", 7), 100000, 7},
		{fanOf("d", 0, 10000, 100000, 0), 4, 10000}, {fanOf("d", 0, 10000, 100000, 0), 5, 9999}, {fanOf("d", 0, 10000, 100000, 0), 99994, 1}, {fanOf("d", 0, 10000, 100000, 0), 99995, 0},
		{edgeFan("b", 99999, 10000, 9999), 99999, 10000}, {edgeFan("b", 99999, 10000, 9999), 100000, 9999},
	}
	for _, c := range cases {
		expect(t, answerOf(impl.PressureAt(c.f, c.flow)), answer{c.pressure, impl.OK}, "PressureAt", c.f, c.flow)
	}
	powers := []struct {
		f           impl.Fan
		flow, power int64
	}{
		{mainFan(), 5000, 25000}, {mainFan(), 0, 0}, {mainFan(), 10000, 0}, {mainFan(), 100000, 0},
		// Against its direction the pressure is the first one, and the power is not negative.
		{mainFan(), -5000, 50000}, {mainFan(), -1, 10}, {levelFan("a", 10000), 100000, 10000000}, {levelFan("a", 10000), -100000, 10000000},
		{levelFan("a", 1), 49, 0}, {levelFan("a", 1), 50, 1}, {levelFan("a", 1), -49, 0}, {levelFan("a", 1), -50, 1}, {levelFan("a", 1), 149, 1}, {levelFan("a", 1), 150, 2},
	}
	for _, c := range powers {
		expect(t, answerOf(impl.FanPower(c.f, c.flow)), answer{c.power, impl.OK}, "FanPower", c.f, c.flow)
	}
}

func TestSurgeFlow(t *testing.T) {
	for _, f := range validFans() {
		expect(t, answerOf(impl.SurgeFlow(f)), answer{wantFlowWith(pressuresOf(f), f.Curve[0][1]), impl.OK}, "SurgeFlow", f)
	}
	cases := []struct {
		f    impl.Fan
		flow int64
	}{
		{mainFan(), 4}, {steps(), 200}, {stairs(), 0}, {levelFan("a", 0), 100000}, {levelFan("a", 7), 100000}, {fanOf("weak", 0, 500, 10000, 500), 100000},
		{fanOf("d", 0, 10000, 100000, 10000), 100000}, {edgeFan("b", 10, 10000, 0), 10}, {edgeFan("b", 99999, 5, 4), 99999}, {edgeFan("b", 0, 1, 0), 0},
		{fanOf("e", 0, 1, 100000, 0), 49999}, {fanOf("e", 0, 5, 50, 5, 100000, 4), 50024}, {fanOf("e", 700, 5, 800, 5, 900, 5, 901, 4), 900},
	}
	for _, c := range cases {
		expect(t, answerOf(impl.SurgeFlow(c.f)), answer{c.flow, impl.OK}, "SurgeFlow", c.f)
	}
}

// TestWorkingPointIsTheLast covers P7.
func TestWorkingPointIsTheLast(t *testing.T) {
	for _, f := range validFans() {
		pressures := pressuresOf(f)
		for _, resistance := range resistances() {
			got := workingOf(impl.WorkingPoint(f, resistance))
			if !from(1, 1000000, resistance) {
				expectWorking(t, got, working{0, 0, impl.ErrRange}, "WorkingPoint", f, resistance)
				continue
			}
			flow, pressure := wantWorking(pressures, resistance)
			expectWorking(t, got, working{flow, pressure, impl.OK}, "WorkingPoint", f, resistance)
			at, _ := impl.PressureAt(f, got.flow)
			if drop, code := impl.DropOf(resistance, got.flow); code != impl.OK || drop > at || got.pressure != at {
				t.Errorf("%v with %d works at %v, where the pressure is %d and the drop %d", f, resistance, got, at, drop)
			}
			if got.flow == 100000 {
				continue
			}
			at, _ = impl.PressureAt(f, got.flow+1)
			if drop, _ := impl.DropOf(resistance, got.flow+1); drop <= at {
				t.Errorf("%v with %d works at %v, but may have more flow", f, resistance, got)
			}
		}
	}
}

func TestWorkingPointsByHand(t *testing.T) {
	cases := []struct {
		f                          impl.Fan
		resistance, flow, pressure int64
	}{
		{mainFan(), 200000, 5002, 500},
		// A drop is rounded, so also a fan without pressure has a flow.
		{levelFan("a", 0), 1, 70710, 0}, {levelFan("a", 0), 1000000, 70, 0}, {edgeFan("b", 10, 10000, 0), 1000000, 70, 0}, {edgeFan("b", 100, 10000, 0), 1000000, 100, 10000},
		// The greatest flow is reached exactly, and not any more.
		{levelFan("a", 1), 1, 100000, 1}, {levelFan("a", 10000), 1, 100000, 10000}, {levelFan("a", 10000), 10000, 100000, 10000}, {levelFan("a", 10000), 10001, 99997, 10000},
		{levelFan("a", 10000), 1000000, 10000, 10000}, {edgeFan("b", 99999, 10000, 0), 10000, 99999, 10000}, {edgeFan("b", 99999, 10000, 9999), 10000, 99999, 10000},
	}
	for _, c := range cases {
		expectWorking(t, workingOf(impl.WorkingPoint(c.f, c.resistance)), working{c.flow, c.pressure, impl.OK}, "WorkingPoint", c.f, c.resistance)
	}
}

func TestSpeedFan(t *testing.T) {
	speeds := append(around(100), 2, 3, 7, 50)
	for _, f := range validFans() {
		for _, num := range speeds {
			for _, den := range speeds {
				want, wantCode := wantSpeed(f, num, den)
				got, code := impl.SpeedFan(f, num, den)
				expectFan(t, got, code, want, wantCode, "SpeedFan", f, num, den)
				if code == impl.OK && !impl.ValidFan(got) {
					t.Errorf("SpeedFan(%v, %d, %d) is not valid", f, num, den)
				}
			}
		}
	}
}

func TestSpeedsByHand(t *testing.T) {
	cases := []struct {
		f        impl.Fan
		num, den int64
		want     impl.Fan
	}{
		{mainFan(), 1, 2, fanOf("f", 0, 250, 5000, 0)},
		{mainFan(), 2, 1, fanOf("f", 0, 4000, 20000, 0)},
		{mainFan(), 3, 2, fanOf("f", 0, 2250, 15000, 0)},
		{mainFan(), 100, 100, mainFan()},
		// Each quotient is rounded down once.
		{fanOf("a", 1, 7, 5, 3), 2, 3, fanOf("a", 0, 3, 3, 1)},
		{fanOf("a", 1, 7, 2, 7), 1, 2, fanOf("a", 0, 1, 1, 1)},
		{fanOf("a", 0, 10000, 100000, 9999), 1, 100, fanOf("a", 0, 1, 1000, 0)},
		// The limits are reached exactly.
		{fanOf("a", 0, 2500, 50000, 0), 2, 1, fanOf("a", 0, 10000, 100000, 0)},
		{fanOf("a", 0, 9801, 99000, 0), 100, 99, fanOf("a", 0, 10000, 100000, 0)},
		{fanOf("a", 0, 1, 1000, 1), 100, 1, fanOf("a", 0, 10000, 100000, 10000)},
	}
	for _, c := range cases {
		c.f.Airway, c.want.Airway = 23, 23
		got, code := impl.SpeedFan(c.f, c.num, c.den)
		expectFan(t, got, code, c.want, impl.OK, "SpeedFan", c.f, c.num, c.den)
	}
	none := []struct {
		f              impl.Fan
		num, den, code int64
	}{
		{mainFan(), 0, 2, impl.ErrRange}, {mainFan(), 1, 0, impl.ErrRange}, {mainFan(), 101, 1, impl.ErrRange}, {mainFan(), 1, 101, impl.ErrRange}, {mainFan(), -1, -1, impl.ErrRange},
		{fanOf("a", 0, 2501, 50000, 0), 2, 1, impl.ErrState}, {fanOf("a", 0, 2500, 50001, 0), 2, 1, impl.ErrState}, {fanOf("a", 0, 0, 99001, 0), 100, 99, impl.ErrState},
		{fanOf("a", 0, 2, 1000, 1), 100, 1, impl.ErrState}, {fanOf("a", 0, 1, 1001, 1), 100, 1, impl.ErrState}, {fanOf("a", 0, 10000, 100000, 10000), 100, 1, impl.ErrState},
		// Two points come to have the same flow.
		{fanOf("a", 0, 7, 1, 7), 1, 2, impl.ErrState}, {fanOf("a", 0, 7, 2, 6, 3, 5), 1, 2, impl.ErrState}, {fanOf("a", 100, 7, 199, 0), 1, 100, impl.ErrState},
	}
	for _, c := range none {
		got, code := impl.SpeedFan(c.f, c.num, c.den)
		expectNoFan(t, got, code, c.code, "SpeedFan", c.f, c.num, c.den)
	}
}

// pairsOfFans returns fans for one behind the other and side by side.
func pairsOfFans() [][2]impl.Fan {
	var pairs [][2]impl.Fan
	chosen := chosenFans()
	for i, a := range chosen {
		pairs = append(pairs, [2]impl.Fan{a, a}, [2]impl.Fan{a, chosen[(i+1)%len(chosen)]}, [2]impl.Fan{a, mainFan()}, [2]impl.Fan{steps(), a})
	}
	list := randomFans(8, 200)
	for i := 0; i < len(list); i += 2 {
		// Few points, so that those of both together are not too many.
		for _, k := range []int{i, i + 1} {
			if i%3 > 0 {
				list[k].Curve = list[k].Curve[:min(len(list[k].Curve), 3)]
			}
		}
		pairs = append(pairs, [2]impl.Fan{list[i], list[i+1]})
	}
	return pairs
}

func TestTwoFans(t *testing.T) {
	for _, pair := range pairsOfFans() {
		a, b := pair[0], pair[1]
		ofA, ofB := pressuresOf(a), pressuresOf(b)
		want, wantCode := wantSeries(a, b)
		series, code := impl.FansInSeries(a, b)
		expectFan(t, series, code, want, wantCode, "FansInSeries", a, b)
		if code == impl.OK {
			// At the points, the pressures of both add up.
			for _, p := range series.Curve {
				if p[1] != ofA[p[0]]+ofB[p[0]] || !impl.ValidFan(series) {
					t.Errorf("FansInSeries(%v, %v) = %v", a, b, series)
				}
			}
		}
		want, wantCode = wantParallel(a, b, ofA, ofB)
		parallel, code := impl.FansInParallel(a, b)
		expectFan(t, parallel, code, want, wantCode, "FansInParallel", a, b)
		if code == impl.OK && !impl.ValidFan(parallel) {
			t.Errorf("FansInParallel(%v, %v) = %v", a, b, parallel)
		}
	}
}

func TestFansInSeriesByHand(t *testing.T) {
	four := fanOf("b", 1, 9, 101, 8, 201, 7, 301, 6)
	cases := []struct{ a, b, want impl.Fan }{
		{mainFan(), mainFan(), fanOf("f", 0, 2000, 10000, 0)},
		{mainFan(), fanOf("weak", 0, 500, 10000, 500), fanOf("f", 0, 1500, 10000, 500)},
		{mainFan(), fanOf("b", 5000, 100, 20000, 50), fanOf("f", 0, 1100, 5000, 600, 10000, 83, 20000, 50)},
		{fanOf("b", 5000, 100, 20000, 50), mainFan(), fanOf("b", 0, 1100, 5000, 600, 10000, 83, 20000, 50)},
		{edgeFan("a", 10, 5, 4), edgeFan("b", 11, 7, 0), fanOf("a", 10, 12, 11, 11, 12, 4)},
		// As many points as allowed, of one, of both, and of both together.
		{stairs(), stairs(), fanOf("stairs", 0, 1600, 100, 1400, 200, 1200, 300, 1000, 400, 800, 500, 600, 600, 400, 700, 200)},
		{stairs(), fanOf("b", 300, 9, 700, 5), fanOf("stairs", 0, 809, 100, 709, 200, 609, 300, 509, 400, 408, 500, 307, 600, 206, 700, 105)},
		{fanOf("a", 0, 10, 100, 10, 200, 10, 300, 10), four, fanOf("a", 0, 19, 1, 19, 100, 18, 101, 18, 200, 17, 201, 17, 300, 16, 301, 16)},
		// The greatest pressure is reached exactly.
		{fanOf("a", 0, 6000, 9, 0), fanOf("b", 0, 4000, 9, 0), fanOf("a", 0, 10000, 9, 0)},
		{levelFan("a", 10000), levelFan("b", 0), levelFan("a", 10000)},
	}
	for _, c := range cases {
		c.a.Airway, c.b.Airway, c.want.Airway = 3, 20, 3
		got, code := impl.FansInSeries(c.a, c.b)
		expectFan(t, got, code, c.want, impl.OK, "FansInSeries", c.a, c.b)
	}
	none := []struct {
		a, b impl.Fan
		code int64
	}{
		{stairs(), fanOf("b", 0, 5, 701, 5), impl.ErrFull},
		{fanOf("a", 0, 10, 100, 10, 200, 10, 300, 10, 400, 10), four, impl.ErrFull},
		{fanOf("a", 0, 6001, 9, 0), fanOf("b", 0, 4000, 9, 0), impl.ErrState},
		{fanOf("a", 5, 10000, 9, 0), fanOf("b", 0, 1, 9, 0), impl.ErrState},
		{levelFan("a", 10000), levelFan("b", 10000), impl.ErrState},
		// Too many points come before too much pressure.
		{stairs(), fanOf("b", 0, 9999, 701, 9999), impl.ErrFull},
	}
	for _, c := range none {
		got, code := impl.FansInSeries(c.a, c.b)
		expectNoFan(t, got, code, c.code, "FansInSeries", c.a, c.b)
		got, code = impl.FansInSeries(c.b, c.a)
		expectNoFan(t, got, code, c.code, "FansInSeries", c.b, c.a)
	}
}

func TestFansInParallelByHand(t *testing.T) {
	reached := fanOf("stairs", 0, 800, 100, 700, 200, 600, 300, 500, 400, 400, 500, 300, 600, 200, 100000, 100)
	cases := []struct{ a, b, want impl.Fan }{
		{mainFan(), mainFan(), fanOf("f", 8, 1000, 100000, 0)},
		// The weaker fan never has the first pressure, and counts 0 there.
		{mainFan(), fanOf("weak", 0, 500, 10000, 500), fanOf("f", 4, 1000, 100000, 500)},
		{fanOf("weak", 0, 500, 10000, 500), mainFan(), fanOf("weak", 4, 1000, 100000, 500)},
		{edgeFan("a", 10, 100, 50), edgeFan("b", 20, 100, 0), fanOf("a", 30, 100, 100000, 50)},
		{fanOf("a", 10, 100, 20, 100, 21, 0), edgeFan("b", 5, 80, 0), fanOf("a", 20, 100, 25, 80, 100000, 0)},
		// Of points with the same flow the one with the greatest pressure is kept.
		{edgeFan("a", 10, 100, 0), edgeFan("b", 0, 90, 0), fanOf("a", 10, 100, 100000, 0)},
		{edgeFan("a", 0, 90, 0), edgeFan("b", 10, 100, 0), fanOf("a", 10, 100, 100000, 0)},
		{edgeFan("a", 0, 100, 0), edgeFan("b", 0, 90, 0), fanOf("a", 0, 100, 100000, 0)},
		// The greatest flow stands for greater ones.
		{fanOf("a", 10, 200, 60000, 100, 60001, 0), edgeFan("b", 70000, 100, 0), fanOf("a", 309, 200, 100000, 100)},
		{fanOf("a", 9, 200, 10, 100, 40000, 100, 40001, 0), edgeFan("b", 59999, 100, 0), fanOf("a", 9, 200, 99999, 100, 100000, 0)},
		{fanOf("a", 9, 200, 10, 100, 40000, 100, 40001, 0), edgeFan("b", 60000, 100, 0), fanOf("a", 9, 200, 100000, 100)},
		// As many points as allowed are kept, of 8, 9 and 16 pressures.
		{stairs(), edgeFan("b", 0, 800, 100), reached},
		{stairs(), levelFan("b", 50), reached},
		{stairs(), fanOf("b", 0, 99, 1, 98, 2, 97, 3, 96, 4, 95, 5, 94, 6, 93, 7, 92), reached},
		{stairs(), stairs(), fanOf("stairs", 0, 800, 200, 700, 400, 600, 600, 500, 800, 400, 1000, 300, 1200, 200, 100000, 100)},
	}
	for _, c := range cases {
		c.a.Airway, c.b.Airway, c.want.Airway = 3, 20, 3
		got, code := impl.FansInParallel(c.a, c.b)
		expectFan(t, got, code, c.want, impl.OK, "FansInParallel", c.a, c.b)
	}
	none := []struct {
		a, b impl.Fan
		code int64
	}{
		{stairs(), edgeFan("b", 0, 750, 50), impl.ErrFull},
		{stairs(), fanOf("b", 0, 799, 1, 699, 2, 599, 3, 499, 4, 0), impl.ErrFull},
		// Only one point is kept.
		{levelFan("a", 500), levelFan("b", 300), impl.ErrState},
		{levelFan("a", 500), levelFan("b", 500), impl.ErrState},
		{levelFan("a", 0), levelFan("b", 0), impl.ErrState},
		{edgeFan("a", 60000, 100, 0), edgeFan("b", 70000, 100, 0), impl.ErrState},
		{edgeFan("a", 40000, 100, 0), edgeFan("b", 60000, 100, 0), impl.ErrState},
		{levelFan("a", 10000), stairs(), impl.ErrState},
	}
	for _, c := range none {
		got, code := impl.FansInParallel(c.a, c.b)
		expectNoFan(t, got, code, c.code, "FansInParallel", c.a, c.b)
		got, code = impl.FansInParallel(c.b, c.a)
		expectNoFan(t, got, code, c.code, "FansInParallel", c.b, c.a)
	}
}

func TestBestFan(t *testing.T) {
	for _, list := range validFanLists() {
		for _, resistance := range []int64{1, 7, 1000, 63240, 1000000} {
			var points, powers []int64
			needs := []int64{0, 1, 100000}
			for _, f := range list {
				flow, pressure := wantWorking(pressuresOf(f), resistance)
				points, powers = append(points, flow), append(powers, quotient(flow*pressure, 100))
				needs = append(needs, flow, min(100000, flow+1))
			}
			for _, need := range needs {
				best := -1
				for i := range list {
					if points[i] >= need && (best < 0 || powers[i] < powers[best]) {
						best = i
					}
				}
				want := answer{int64(best), impl.OK}
				if best < 0 {
					want = failed(impl.ErrNotFound)
				}
				expect(t, answerOf(impl.BestFan(list, resistance, need)), want, "BestFan", list, resistance, need)
			}
		}
		// No resistance and no flow come before no fan.
		for _, n := range around(1000000) {
			if !from(1, 1000000, n) {
				expect(t, answerOf(impl.BestFan(list, n, 0)), failed(impl.ErrRange), "BestFan", list, n, 0)
			}
		}
		for _, n := range around(100000) {
			if !from(0, 100000, n) {
				expect(t, answerOf(impl.BestFan(list, 1000, n)), failed(impl.ErrRange), "BestFan", list, 1000, n)
			}
		}
	}
}

func TestBestFansByHand(t *testing.T) {
	weak, strong, small := fanOf("e", 0, 500, 10000, 500), levelFan("g", 2000), levelFan("h", 100)
	cases := []struct {
		list             []impl.Fan
		resistance, need int64
		want             answer
	}{
		// Both work at 5002 with 25010 watts.
		{[]impl.Fan{weak, mainFan()}, 200000, 4000, answer{0, impl.OK}},
		{[]impl.Fan{weak, mainFan()}, 200000, 5002, answer{0, impl.OK}},
		{[]impl.Fan{weak, mainFan()}, 200000, 5003, failed(impl.ErrNotFound)},
		{[]impl.Fan{weak, mainFan()}, 200000, 9000, failed(impl.ErrNotFound)},
		// The least power, wherever its fan stands, of those with enough flow: 10001, 5002 and 2241.
		{[]impl.Fan{weak, strong, small}, 200000, 0, answer{2, impl.OK}},
		{[]impl.Fan{weak, strong, small}, 200000, 2241, answer{2, impl.OK}},
		{[]impl.Fan{weak, strong, small}, 200000, 2242, answer{0, impl.OK}},
		{[]impl.Fan{weak, strong, small}, 200000, 5003, answer{1, impl.OK}},
		{[]impl.Fan{weak, strong, small}, 200000, 10001, answer{1, impl.OK}},
		{[]impl.Fan{weak, strong, small}, 200000, 10002, failed(impl.ErrNotFound)},
		// A power of 0 is the least one, also of the first fan.
		{[]impl.Fan{levelFan("a", 0), small}, 200000, 0, answer{0, impl.OK}},
		{[]impl.Fan{levelFan("a", 7), levelFan("b", 0), small}, 200000, 0, answer{1, impl.OK}},
		// 122 and 100 with a pascal are both a watt when they are rounded.
		{[]impl.Fan{levelFan("a", 1), edgeFan("b", 100, 1, 0)}, 1000000, 0, answer{0, impl.OK}},
		{[]impl.Fan{edgeFan("a", 100, 1, 0), levelFan("b", 1)}, 1000000, 0, answer{0, impl.OK}},
		{[]impl.Fan{edgeFan("a", 100, 1, 0), levelFan("b", 1)}, 1000000, 101, answer{1, impl.OK}},
		{[]impl.Fan{levelFan("a", 1)}, 1, 100000, answer{0, impl.OK}},
		{nil, 1, 0, failed(impl.ErrNotFound)},
		{nil, 0, 0, failed(impl.ErrRange)},
		{nil, 1, -1, failed(impl.ErrRange)},
	}
	for _, c := range cases {
		expect(t, answerOf(impl.BestFan(c.list, c.resistance, c.need)), c.want, "BestFan", c.list, c.resistance, c.need)
	}
}

func fanText(f impl.Fan) string {
	s := fmt.Sprintf("%s %d", f.Id, f.Airway)
	for _, row := range f.Curve {
		s += " " + strings.Trim(strings.ReplaceAll(fmt.Sprint(row), " ", ":"), "[]")
	}
	return s
}

func TestFansAreReadBack(t *testing.T) {
	for _, f := range validFans() {
		s := impl.FanText(f)
		if s != fanText(f) {
			t.Errorf("FanText(%v) = %q", f, s)
		}
		if got, ok := impl.ReadFan(s); !reflect.DeepEqual(got, f) || !ok {
			t.Errorf("ReadFan(%q) = %v, %v", s, got, ok)
		}
	}
	last := edgeFan("abcdefghij", 99999, 10000, 0)
	last.Airway = 23
	for s, f := range map[string]impl.Fan{"f 0 0:1000 10000:0": mainFan(), "abcdefghij 23 99999:10000 100000:0": last} {
		if got := impl.FanText(f); got != s {
			t.Errorf("%v has the text %q", f, got)
		}
	}
	for _, f := range invalidFans() {
		if got, ok := impl.ReadFan(fanText(f)); ok || !reflect.DeepEqual(got, impl.Fan{}) {
			t.Errorf("ReadFan(%.100q) = %v, %v", fanText(f), got, ok)
		}
	}
}

func TestReadFanTakesCanonicalTextsOnly(t *testing.T) {
	texts := append(oddTexts(), "f", "f ", "f 0", "f 0 ", "f 0 0:1000", "f 0 0:1000 ", "f 0 0:1000 10000:", "f 0 0:1000 10000", "f 0 0:1000 :0", "f 0 0:1000 :", "f 0 : 1:0",
		" f 0 0:1000 10000:0", "f  0 0:1000 10000:0", "f 0  0:1000 10000:0", "f 0 0:1000  10000:0", "f 0 0:1000 10000:0 ", "f 0 0:1000 10000:0\n", "f\t0 0:1000 10000:0", "f 0\t0:1000 10000:0",
		"F 0 0:1000 10000:0", "1f 0 0:1000 10000:0", "0 0:1000 10000:0", " 0 0:1000 10000:0", "f 0:1000 10000:0", "f f 0:1000 10000:0", "f  0:1000 10000:0", "f x 0:1000 10000:0",
		"f 00 0:1000 10000:0", "f -0 0:1000 10000:0", "f +0 0:1000 10000:0", "f 0 00:1000 10000:0", "f 0 -0:1000 10000:0", "f 0 +0:1000 10000:0", "f 0 0:01000 10000:0",
		"f 0 0:1000 10000:-0", "f 0 0:1000 10000:00", "f 0 0:1000 10000:+0", "f 0 0: 1000 10000:0", "f 0 0 :1000 10000:0", "f 0 0:1000:0 10000:0", "f 0 0:1000 10000:0:", "f 0 0:1000 10000::0",
		"f 0 :0:1000 10000:0", "f 0 0:1000,10000:0", "f 0 0,1000 10000,0", "f 0 0:1000 10000:x", "f 0 x:1000 10000:0", "f 0 0:x 10000:0", "f 0 0:1000 0:0", "f 0 0:1000 10000:1001", "f 24 0:1000 10000:0", "f -1 0:1000 10000:0",
		"f 0 0:1000 10000:0 f", "f 0 0:1000 10000:0 10001", "f 0 -1:1000 10000:0", "f 0 0:1000 100001:0", "f 0 0:10001 10000:0", "f 0 0:1000 10000:-1", "f 0 0:1.0 10000:0", "f 0 0:1000 1000000000000000000:0",
		"abcdefghijk 0 0:1000 10000:0", fanText(stairs())+" 701:100", fanText(stairs())+" ", fanText(stairs())+strings.Repeat(" 701:0", 10000), strings.Repeat("f 0 ", 10000), strings.Repeat("f", 10000)+" 0 0:1000 10000:0")
	for _, s := range texts {
		if got, ok := impl.ReadFan(s); ok || !reflect.DeepEqual(got, impl.Fan{}) {
			t.Errorf("ReadFan(%.100q) = %v, %v, want the zero Fan and false", s, got, ok)
		}
	}
	if f, ok := impl.ReadFan(fanText(stairs())); !ok || len(f.Curve) != 8 {
		t.Error("a fan with all points is not read")
	}
}

// fanResults returns what all functions of chapter 6 return for two fans and some other arguments.
func fanResults(f, other impl.Fan) []any {
	var all []any
	keep := func(results ...any) { all = append(all, results) }
	list := []impl.Fan{f, other}
	keep(impl.ValidFan(f), impl.ValidFans(list), impl.SameFan(f, other), impl.FanText(f), answerOf(impl.SurgeFlow(f)))
	for _, n := range append(around(100000, 1000000), 5, 500, 5000) {
		keep(answerOf(impl.PressureAt(f, n)), answerOf(impl.FanPower(f, n)), workingOf(impl.WorkingPoint(f, n)), answerOf(impl.BestFan(list, n, 7)), answerOf(impl.BestFan(list[:1], 7, n)))
		for _, den := range []int64{0, 1, 3, 100, math.MinInt64, math.MaxInt64} {
			g, code := impl.SpeedFan(f, n, den)
			keep(g, code)
		}
	}
	series, one := impl.FansInSeries(f, other)
	parallel, two := impl.FansInParallel(f, other)
	keep(series, one, parallel, two)
	return all
}

func TestFansReturnTheSameForAllArguments(t *testing.T) {
	wild := impl.Fan{Id: strings.Repeat("f", 100000), Airway: math.MinInt64, Curve: make([][]int64, 1000)}
	huge := fanOf("f", math.MinInt64, math.MaxInt64, math.MaxInt64, math.MinInt64)
	fans := append(append(chosenFans(), invalidFans()...), wild, huge)
	for i, f := range fans {
		for _, other := range []impl.Fan{f, mainFan(), steps(), {}, fans[len(fans)-1-i]} {
			twice(t, "the functions of fans", func() []any { return fanResults(f, other) })
			none := cloneFan(f)
			for k, row := range none.Curve {
				none.Curve[k] = append([]int64{}, row...)
			}
			if a, b := fmt.Sprint(fanResults(f, other)), fmt.Sprint(fanResults(none, other)); a != b {
				t.Errorf("the results for %v depend on where its curve lies", f)
			}
		}
	}
	for _, list := range append(validFanLists(), invalidFanLists()...) {
		twice(t, "the functions of lists of fans", func() []any { return []any{impl.ValidFans(list), answerOf(impl.BestFan(list, 1000, 5))} })
	}
	for _, s := range append(oddTexts(), "f 0 0:1000 10000:0", "f 0 0:1000 0:0") {
		twice(t, "ReadFan", func() []any { f, ok := impl.ReadFan(s); return []any{f, ok} })
	}
	if impl.ValidFans(nil) != impl.ValidFans([]impl.Fan{}) || answerOf(impl.BestFan(nil, 1, 1)) != answerOf(impl.BestFan([]impl.Fan{}, 1, 1)) {
		t.Error("no fans behave otherwise as nil than as an empty list")
	}
}

// roomy returns a fan with room behind its curve and behind each row, and that room as it is printed.
func roomy(f impl.Fan) (impl.Fan, func() string) {
	rows := make([][]int64, 0, len(f.Curve)+12)
	for _, row := range append(slices.Clone(f.Curve), []int64{100000, 0}, nil) {
		rows = append(rows, append(slices.Clone(row), -77, -78, -79)[:len(row)])
	}
	whole := rows[:cap(rows)]
	f.Curve = rows[:len(f.Curve)]
	return f, func() string {
		s := ""
		for _, row := range whole {
			s += fmt.Sprint(len(row), row[:cap(row)])
		}
		return s
	}
}

func TestFansModifyNoArgument(t *testing.T) {
	for _, f := range append(validFans(), invalidFans()...) {
		for _, other := range []impl.Fan{mainFan(), stairs(), steps(), f} {
			a, roomOfA := roomy(f)
			b, roomOfB := roomy(other)
			list := []impl.Fan{a, b, a, b}
			before, one, two := fmt.Sprint(list), roomOfA(), roomOfB()
			fanResults(list[0], list[1])
			fanResults(list[1], list[0])
			impl.BestFan(list[:2], 1000, 0)
			impl.ValidFans(list[:1])
			if fmt.Sprint(list) != before || roomOfA() != one || roomOfB() != two {
				t.Errorf("%v or %v, or what lies behind them, is changed", f, other)
			}
		}
	}
}

// spoilFan writes to all rows of a fan, and to the room behind them; the rows that are not written to yet must stay as they are.
func spoilFan(t *testing.T, f impl.Fan) {
	t.Helper()
	for i := range f.Curve {
		rest := fmt.Sprint(f.Curve[i+1:])
		spoil(f.Curve[i], 77)
		if fmt.Sprint(f.Curve[i+1:]) != rest {
			t.Errorf("two rows of %v share memory", f)
		}
	}
	spoil(f.Curve, []int64{7})
}

func TestFansReturnNewMemory(t *testing.T) {
	for _, pair := range pairsOfFans() {
		a, b := pair[0], pair[1]
		before, want := [2]impl.Fan{cloneFan(a), cloneFan(b)}, fanResults(a, b)
		series, _ := impl.FansInSeries(a, b)
		spoilFan(t, series)
		parallel, _ := impl.FansInParallel(a, b)
		spoilFan(t, parallel)
		alike, code := impl.SpeedFan(a, 1, 1)
		expectFan(t, alike, code, a, impl.OK, "SpeedFan", a, 1, 1)
		spoilFan(t, alike)
		read, _ := impl.ReadFan(impl.FanText(a))
		spoilFan(t, read)
		if !reflect.DeepEqual([2]impl.Fan{a, b}, before) || !reflect.DeepEqual(fanResults(a, b), want) {
			t.Errorf("results for %v share memory", before)
		}
	}
}
