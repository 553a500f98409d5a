package tests

import (
	"fmt"
	"math"
	"math/big"
	"math/rand"
	"reflect"
	"slices"
	"strings"
	"testing"

	"loop.example/g01021/impl"
)

// The declarations of chapter 5, which must keep their types.
var (
	_ func(impl.Survey) bool                            = impl.ValidSurvey
	_ func(impl.Survey) (int64, int64, int64)           = impl.BoundsOf
	_ func(impl.Survey) (int64, int64)                  = impl.MiddleOf
	_ func([]impl.Survey, string) (int64, int64, int64) = impl.CommonBounds
	_ func([]impl.Survey, string) ([]int64, int64)      = impl.LargestAgreement
	_ func([]impl.Survey) ([]int64, int64)              = impl.OddSurveys
	_ func(impl.Survey, int64) bool                     = impl.FitsSurvey
	_ func([]int64) (int64, int64)                      = impl.LoopError
	_ func([]int64) ([]int64, int64)                    = impl.CloseLoop
	_ func([]int64, []int64) (int64, int64)             = impl.JunctionError
	_ func(impl.Survey) string                          = impl.SurveyText
	_ func(string) (impl.Survey, bool)                  = impl.ReadSurvey
	_ [impl.MaxSurveys]struct{}                         = [16]struct{}{}
	_ [impl.MaxDrop]struct{}                            = [10000]struct{}{}
)

func mainSurvey() impl.Survey {
	return impl.Survey{Airway: "main", Drop: 158, DropError: 2, Flow: 5000, FlowError: 100}
}

// spanning returns a survey with the bounds low and high, of which both or none must be even: with the greatest flow, drops are resistances.
func spanning(airway string, low, high int64) impl.Survey {
	return impl.Survey{Airway: airway, Drop: (low + high) / 2, DropError: (high - low) / 2, Flow: 100000}
}

// validSurveys returns ordinary surveys, those at each limit, and many at random.
func validSurveys() []impl.Survey {
	list := []impl.Survey{
		mainSurvey(), spanning("a", 7, 7), spanning("b", 0, 20000), spanning("abcdefghij", 1, 19),
		{Airway: "a1", Flow: 1}, {Airway: "z", Drop: 10000, DropError: 10000, Flow: 1}, {Airway: "z", Drop: 10000, DropError: 10000, Flow: 100000, FlowError: 99999},
		{Airway: "a", DropError: 10000, Flow: 100000}, {Airway: "a", Drop: 10000, Flow: 1}, {Airway: "a", Drop: 10000, Flow: 2, FlowError: 1}, {Airway: "a", Flow: 100000, FlowError: 99999},
	}
	random := rand.New(rand.NewSource(5))
	for _, most := range []int64{3, 100, 10000} {
		for _, flow := range []int64{5, 3000, 100000} {
			for range 300 {
				x := impl.Survey{Airway: "r", Drop: random.Int63n(most + 1), DropError: random.Int63n(most + 1), Flow: 1 + random.Int63n(flow)}
				x.FlowError = random.Int63n(x.Flow)
				if random.Intn(2) == 0 {
					x.FlowError, x.DropError = x.FlowError/1000, x.DropError/1000
				}
				list = append(list, x)
			}
		}
	}
	return list
}

// invalidSurveys returns surveys each of which breaks one limit.
func invalidSurveys() []impl.Survey {
	list := []impl.Survey{{}}
	with := func(change func(x *impl.Survey)) {
		x := mainSurvey()
		change(&x)
		list = append(list, x)
	}
	for _, id := range []string{"", "A", "1a", "a b", " a", "a ", "a-b", "abcdefghijk", "a\n", "\xff"} {
		with(func(x *impl.Survey) { x.Airway = id })
	}
	for _, n := range []int64{math.MinInt64, -1, 10001, math.MaxInt64} {
		with(func(x *impl.Survey) { x.Drop = n })
		with(func(x *impl.Survey) { x.DropError = n })
		with(func(x *impl.Survey) { x.FlowError = n })
	}
	for _, n := range []int64{math.MinInt64, -1, 0, 100, 100001, math.MaxInt64} {
		with(func(x *impl.Survey) { x.Flow = n })
	}
	with(func(x *impl.Survey) { x.FlowError = 5000 })
	with(func(x *impl.Survey) { x.Flow, x.FlowError = 1, 1 })
	with(func(x *impl.Survey) { x.Flow, x.FlowError = 0, 0 })
	with(func(x *impl.Survey) { x.Flow, x.FlowError = 100001, 0 })
	with(func(x *impl.Survey) { x.Flow, x.FlowError = 100000, 100000 })
	return list
}

type bounds struct{ low, high, code int64 }

func boundsOf(low, high, code int64) bounds { return bounds{low, high, code} }

func noBounds(code int64) bounds { return bounds{0, 0, code} }

func expectBounds(t *testing.T, got, want bounds, name string, args ...any) {
	t.Helper()
	if got != want {
		t.Errorf("%s of %v: got %d, want %d", name, args, got, want)
	}
}

// drawn returns the two parts of a quotient in pascals and flows.
func drawn(drop, flow int64) (*big.Int, *big.Int) {
	top := new(big.Int).Mul(big.NewInt(drop), big.NewInt(10000000000))
	return top, new(big.Int).Mul(big.NewInt(flow), big.NewInt(flow))
}

func replaced(n *big.Int) int64 {
	if n.Cmp(big.NewInt(1)) < 0 {
		return 1
	}
	if n.Cmp(big.NewInt(1000000)) > 0 {
		return 1000000
	}
	return n.Int64()
}

func wantBounds(x impl.Survey) bounds {
	top, bottom := drawn(max(0, x.Drop-x.DropError), x.Flow+x.FlowError)
	low := new(big.Int).Div(top, bottom)
	top, bottom = drawn(x.Drop+x.DropError, x.Flow-x.FlowError)
	high, rest := new(big.Int).DivMod(top, bottom, new(big.Int))
	if rest.Sign() > 0 {
		high.Add(high, big.NewInt(1))
	}
	return bounds{replaced(low), replaced(high), impl.OK}
}

func wantMiddle(x impl.Survey) int64 { return replaced(exactNearest(drawn(x.Drop, x.Flow))) }

func TestValidSurvey(t *testing.T) {
	for _, x := range validSurveys() {
		if !impl.ValidSurvey(x) {
			t.Errorf("%v is not valid", x)
		}
	}
	for _, x := range invalidSurveys() {
		if impl.ValidSurvey(x) {
			t.Errorf("%v is valid", x)
		}
	}
}

func TestInvalidSurveysComeFirst(t *testing.T) {
	for _, x := range invalidSurveys() {
		expectBounds(t, boundsOf(impl.BoundsOf(x)), noBounds(impl.ErrInvalid), "BoundsOf", x)
		expect(t, answerOf(impl.MiddleOf(x)), failed(impl.ErrInvalid), "MiddleOf", x)
		for _, n := range append(around(1000000), 63200) {
			if impl.FitsSurvey(x, n) {
				t.Errorf("%d fits %v", n, x)
			}
		}
		if s := impl.SurveyText(x); s != "" {
			t.Errorf("SurveyText(%v) = %q", x, s)
		}
	}
	full := slices.Repeat([]impl.Survey{mainSurvey()}, 16)
	lists := [][]impl.Survey{append(slices.Clone(full), mainSurvey()), append(slices.Clone(full), spanning("b", 2, 4))}
	for _, x := range invalidSurveys() {
		lists = append(lists, []impl.Survey{x}, []impl.Survey{x, mainSurvey()}, []impl.Survey{spanning("main", 1, 1), mainSurvey(), x}, append(slices.Clone(full[:15]), x))
	}
	for _, list := range lists {
		// Before the error that there are no surveys of an airway, and before bounds that do not meet.
		for _, airway := range []string{"main", "none", "", "A", list[len(list)-1].Airway} {
			expectBounds(t, boundsOf(impl.CommonBounds(list, airway)), noBounds(impl.ErrInvalid), "CommonBounds", list, airway)
			got, code := impl.LargestAgreement(list, airway)
			expectNoList(t, got, code, impl.ErrInvalid, "LargestAgreement", list, airway)
		}
		got, code := impl.OddSurveys(list)
		expectNoList(t, got, code, impl.ErrInvalid, "OddSurveys", list)
	}
	got, code := impl.LargestAgreement(full, "main")
	expectList(t, got, code, []int64{0, 1, 2, 3, 4, 5, 6, 7, 8, 9, 10, 11, 12, 13, 14, 15}, "LargestAgreement", "as many surveys as allowed")
}

// TestMiddlesLieInBounds covers P6.
func TestMiddlesLieInBounds(t *testing.T) {
	for _, x := range validSurveys() {
		want := wantBounds(x)
		got := boundsOf(impl.BoundsOf(x))
		expectBounds(t, got, want, "BoundsOf", x)
		middle, code := impl.MiddleOf(x)
		expect(t, answer{middle, code}, answer{wantMiddle(x), impl.OK}, "MiddleOf", x)
		if middle < got.low || middle > got.high || !impl.FitsSurvey(x, middle) {
			t.Errorf("the middle %d of %v does not lie in its bounds %v", middle, x, got)
		}
		for _, n := range append(around(1000000, got.low, got.high), middle) {
			if impl.FitsSurvey(x, n) != from(want.low, want.high, n) {
				t.Errorf("FitsSurvey(%v, %d) = %v", x, n, impl.FitsSurvey(x, n))
			}
		}
	}
}

func TestBoundsByHand(t *testing.T) {
	cases := []struct{ drop, dropError, flow, flowError, low, middle, high int64 }{
		{158, 2, 5000, 100, 59976, 63200, 66639},
		{158, 0, 5000, 0, 63200, 63200, 63200},
		// Rounded down, to the nearest one, and up.
		{1, 0, 30000, 0, 11, 11, 12},
		{5, 0, 30000, 0, 55, 56, 56},
		{2, 0, 40000, 0, 12, 13, 13},
		{7, 3, 100000, 0, 4, 7, 10},
		// A drop that is less than its error, equal to it, and one more.
		{6, 7, 100000, 0, 1, 6, 13},
		{7, 7, 100000, 0, 1, 7, 14},
		{6, 7, 10000, 0, 1, 600, 1300},
		{7, 7, 10000, 0, 1, 700, 1400},
		{8, 7, 10000, 0, 100, 800, 1500},
		{0, 10000, 100000, 0, 1, 1, 10000},
		// Replaced by 1, each one alone or all.
		{0, 0, 100000, 0, 1, 1, 1},
		{0, 0, 1, 0, 1, 1, 1},
		{0, 0, 100000, 99999, 1, 1, 1},
		{0, 2, 100000, 0, 1, 1, 2},
		{1, 0, 100000, 0, 1, 1, 1},
		{2, 0, 100000, 0, 2, 2, 2},
		{1, 0, 100000, 1, 1, 1, 2},
		{7, 0, 100000, 99999, 1, 7, 1000000},
		{8, 0, 100000, 99999, 2, 8, 1000000},
		// MaxResistance is reached, and passed by one, so that it replaces what is more.
		{100, 0, 1000, 0, 1000000, 1000000, 1000000},
		{99, 1, 1000, 0, 980000, 990000, 1000000},
		{99, 2, 1000, 0, 970000, 990000, 1000000},
		{101, 1, 1000, 0, 1000000, 1000000, 1000000},
		{102, 1, 1000, 0, 1000000, 1000000, 1000000},
		{101, 2, 1000, 0, 990000, 1000000, 1000000},
		{1042, 0, 3228, 0, 1000000, 1000000, 1000000},
		{1825, 0, 4272, 0, 1000000, 1000000, 1000000},
		{10000, 0, 10000, 0, 1000000, 1000000, 1000000},
		{9999, 0, 10000, 0, 999900, 999900, 999900},
		{10000, 0, 1, 0, 1000000, 1000000, 1000000},
		{1, 0, 1, 0, 1000000, 1000000, 1000000},
		{1, 1, 1, 0, 1, 1000000, 1000000},
		{10000, 10000, 2, 1, 1, 1000000, 1000000},
		{10000, 0, 100000, 99999, 2500, 10000, 1000000},
	}
	for _, c := range cases {
		x := impl.Survey{Airway: "a", Drop: c.drop, DropError: c.dropError, Flow: c.flow, FlowError: c.flowError}
		expectBounds(t, boundsOf(impl.BoundsOf(x)), bounds{c.low, c.high, impl.OK}, "BoundsOf", x)
		expect(t, answerOf(impl.MiddleOf(x)), answer{c.middle, impl.OK}, "MiddleOf", x)
		for _, n := range around(c.low, c.high) {
			if impl.FitsSurvey(x, n) != from(c.low, c.high, n) {
				t.Errorf("FitsSurvey(%v, %d) = %v", x, n, impl.FitsSurvey(x, n))
			}
		}
	}
}

// surveyLists returns lists with surveys of up to three airways, with bounds that meet often, and the empty list.
func surveyLists() [][]impl.Survey {
	random := rand.New(rand.NewSource(55))
	lists := [][]impl.Survey{nil, {}, validSurveys()[:11]}
	for i := range 600 {
		var list []impl.Survey
		airways := []string{"a", "b", "b1"}[:1+i%3]
		for range random.Intn(9) + i%2*random.Intn(9) {
			middle := 1 + random.Int63n(20)
			wide := random.Int63n(min(middle, 8))
			list = append(list, spanning(airways[random.Intn(len(airways))], middle-wide, middle+wide))
		}
		lists = append(lists, list)
	}
	return lists
}

func indicesOfAirway(list []impl.Survey, airway string) []int64 {
	var indices []int64
	for i, x := range list {
		if x.Airway == airway {
			indices = append(indices, int64(i))
		}
	}
	return indices
}

// wantCommon returns the bounds that some surveys have in common.
func wantCommon(list []impl.Survey, indices []int64) bounds {
	if len(indices) == 0 {
		return noBounds(impl.ErrNotFound)
	}
	common := bounds{1, 1000000, impl.OK}
	for _, i := range indices {
		b := wantBounds(list[i])
		common.low, common.high = max(common.low, b.low), min(common.high, b.high)
	}
	if common.low > common.high {
		return noBounds(impl.ErrState)
	}
	return common
}

func wantAgreement(list []impl.Survey, airway string) []int64 {
	var longest []int64
	for _, i := range indicesOfAirway(list, airway) {
		low := wantBounds(list[i]).low
		var agreement []int64
		for _, j := range indicesOfAirway(list, airway) {
			if b := wantBounds(list[j]); from(b.low, b.high, low) {
				agreement = append(agreement, j)
			}
		}
		if len(agreement) > len(longest) {
			longest = agreement
		}
	}
	return longest
}

func TestListsOfSurveys(t *testing.T) {
	for _, list := range surveyLists() {
		var odd []int64
		for i, x := range list {
			if !slices.Contains(wantAgreement(list, x.Airway), int64(i)) {
				odd = append(odd, int64(i))
			}
		}
		got, code := impl.OddSurveys(list)
		expectList(t, got, code, odd, "OddSurveys", list)
		for _, airway := range []string{"a", "b", "b1", "main", "none", "", "A", "B"} {
			all := indicesOfAirway(list, airway)
			expectBounds(t, boundsOf(impl.CommonBounds(list, airway)), wantCommon(list, all), "CommonBounds", list, airway)
			got, code := impl.LargestAgreement(list, airway)
			if len(all) == 0 {
				expectNoList(t, got, code, impl.ErrNotFound, "LargestAgreement", list, airway)
			} else {
				expectList(t, got, code, wantAgreement(list, airway), "LargestAgreement", list, airway)
			}
		}
	}
}

// TestNoAgreementIsLarger looks at all sets of the surveys of an airway.
func TestNoAgreementIsLarger(t *testing.T) {
	for _, list := range surveyLists() {
		for _, airway := range []string{"a", "b"} {
			all := indicesOfAirway(list, airway)
			if len(all) == 0 || len(all) > 8 {
				continue
			}
			most := 0
			for set := 1; set < 1<<len(all); set++ {
				var some []int64
				for i, index := range all {
					if set>>i&1 == 1 {
						some = append(some, index)
					}
				}
				if len(some) > most && wantCommon(list, some).code == impl.OK {
					most = len(some)
				}
			}
			got, _ := impl.LargestAgreement(list, airway)
			if len(got) != most || wantCommon(list, got).code != impl.OK {
				t.Errorf("LargestAgreement(%v, %q) = %v, but %d agree", list, airway, got, most)
			}
		}
	}
}

func TestListsOfSurveysByHand(t *testing.T) {
	chain := []impl.Survey{spanning("a", 1, 5), spanning("a", 5, 9), spanning("a", 9, 13)}
	apart := []impl.Survey{spanning("a", 2, 4), spanning("b", 5, 5), spanning("a", 5, 7), spanning("a", 8, 10)}
	two := []impl.Survey{spanning("a", 20, 30), spanning("a", 2, 4), spanning("b", 7, 7), spanning("a", 3, 5), spanning("b", 7, 9), spanning("a", 26, 28), spanning("b", 1, 1)}
	within := []impl.Survey{spanning("a", 1, 99), spanning("a", 40, 50), spanning("a", 10, 20), spanning("a", 12, 14), spanning("a", 13, 13)}
	cases := []struct {
		name   string
		list   []impl.Survey
		common bounds
		agree  []int64
		odd    []int64
	}{
		{"none", nil, noBounds(impl.ErrNotFound), nil, nil},
		{"none of this airway", []impl.Survey{spanning("b", 2, 4)}, noBounds(impl.ErrNotFound), nil, nil},
		{"one", chain[:1], bounds{1, 5, impl.OK}, []int64{0}, nil},
		{"one number in common", chain[:2], bounds{5, 5, impl.OK}, []int64{0, 1}, nil},
		{"one number in common, turned", []impl.Survey{chain[1], chain[0]}, bounds{5, 5, impl.OK}, []int64{0, 1}, nil},
		{"nothing in common by one", []impl.Survey{spanning("a", 1, 5), spanning("a", 6, 10)}, noBounds(impl.ErrState), []int64{0}, []int64{1}},
		// The lists are [0], [0 1] and [1 2], of which the second one is the first of the longest.
		{"a chain", chain, noBounds(impl.ErrState), []int64{0, 1}, []int64{2}},
		{"a chain with another airway", append(slices.Clone(chain), spanning("b", 7, 7)), noBounds(impl.ErrState), []int64{0, 1}, []int64{2}},
		{"all apart", apart, noBounds(impl.ErrState), []int64{0}, []int64{2, 3}},
		{"two pairs and an airway beside them", two, noBounds(impl.ErrState), []int64{1, 3}, []int64{0, 5, 6}},
		{"within each other", within, noBounds(impl.ErrState), []int64{0, 2, 3, 4}, []int64{1}},
		{"all within each other", within[2:], bounds{13, 13, impl.OK}, []int64{0, 1, 2}, nil},
		{"wide ones", []impl.Survey{spanning("a", 1, 19), spanning("a", 4, 18), spanning("a", 3, 17)}, bounds{4, 17, impl.OK}, []int64{0, 1, 2}, nil},
		// The bounds of the first one are both replaced by MaxResistance, and those of the last one by 1.
		{"replaced", []impl.Survey{{Airway: "a", Drop: 10000, Flow: 1}, {Airway: "a", Drop: 100, Flow: 1000}, {Airway: "a", Flow: 9}}, noBounds(impl.ErrState), []int64{0, 1}, []int64{2}},
	}
	for _, c := range cases {
		expectBounds(t, boundsOf(impl.CommonBounds(c.list, "a")), c.common, "CommonBounds", c.name)
		got, code := impl.LargestAgreement(c.list, "a")
		if c.agree == nil {
			expectNoList(t, got, code, impl.ErrNotFound, "LargestAgreement", c.name)
		} else {
			expectList(t, got, code, c.agree, "LargestAgreement", c.name)
		}
		got, code = impl.OddSurveys(c.list)
		expectList(t, got, code, c.odd, "OddSurveys", c.name)
	}
}

func surveyText(x impl.Survey) string {
	return fmt.Sprintf("%s %d,%d,%d,%d", x.Airway, x.Drop, x.DropError, x.Flow, x.FlowError)
}

func TestSurveysAreReadBack(t *testing.T) {
	for _, x := range validSurveys() {
		s := impl.SurveyText(x)
		if s != surveyText(x) {
			t.Errorf("SurveyText(%v) = %q", x, s)
		}
		if got, ok := impl.ReadSurvey(s); got != x || !ok {
			t.Errorf("ReadSurvey(%q) = %v, %v", s, got, ok)
		}
	}
	if s := impl.SurveyText(mainSurvey()); s != "main 158,2,5000,100" {
		t.Errorf("%v has the text %q", mainSurvey(), s)
	}
	for _, x := range invalidSurveys() {
		if got, ok := impl.ReadSurvey(surveyText(x)); ok || got != (impl.Survey{}) {
			t.Errorf("ReadSurvey(%q) = %v, %v", surveyText(x), got, ok)
		}
	}
}

func TestReadSurveyTakesCanonicalTextsOnly(t *testing.T) {
	texts := append(oddTexts(), "main", "main ", "main -", "main 158", "main 158,2,5000", "main 158,2,5000,100,0", "main 158,2,5000,100,", "main ,158,2,5000,100",
		"main  158,2,5000,100", " main 158,2,5000,100", "main 158,2,5000,100 ", "main 158,2,5000,100\n", "main\t158,2,5000,100", "main,158,2,5000,100",
		"158,2,5000,100", " 158,2,5000,100", "Main 158,2,5000,100", "1main 158,2,5000,100", "main 0158,2,5000,100", "main +158,2,5000,100", "main 158,-2,5000,100",
		"main 158,-0,5000,100", "main 158, 2,5000,100", "main 158 2 5000 100", "main 158,2,5000,x", "main 158,2,,100", "main 158,2,5000,100 main", "main main 158,2,5000,100",
		"main 158.0,2,5000,100", "main 1000000000000000000,2,5000,100", "abcdefghijk 158,2,5000,100", "main 158,2,5000,"+strings.Repeat("1", 1000), strings.Repeat("a", 1000)+" 158,2,5000,100")
	for _, s := range texts {
		if got, ok := impl.ReadSurvey(s); ok || got != (impl.Survey{}) {
			t.Errorf("ReadSurvey(%.30q) = %v, %v, want the zero Survey and false", s, got, ok)
		}
	}
}

// validLoops returns drops at each limit, ordinary ones, and many at random.
func validLoops() [][]int64 {
	loops := [][]int64{
		nil, {}, {0}, {7}, {-7}, {10000}, {-10000}, {30, -10, -14}, {1, 1}, {2, 1}, {-2, -1}, {5, 0, 0}, {10000, -10000},
		slices.Repeat([]int64{10000}, 64), slices.Repeat([]int64{-10000}, 64), make([]int64, 64),
	}
	random := rand.New(rand.NewSource(64))
	for range 500 {
		loop := make([]int64, 1+random.Intn(64))
		most := []int64{1, 20, 10000}[random.Intn(3)]
		for i := range loop {
			loop[i] = random.Int63n(2*most+1) - most
		}
		loops = append(loops, loop)
	}
	return loops
}

// TestClosedLoopsHaveNoError covers P6.
func TestClosedLoopsHaveNoError(t *testing.T) {
	for _, drops := range validLoops() {
		sum := int64(0)
		for _, n := range drops {
			sum += n
		}
		expect(t, answerOf(impl.LoopError(drops)), answer{sum, impl.OK}, "LoopError", drops)
		closed, code := impl.CloseLoop(drops)
		if code != impl.OK || len(closed) != len(drops) {
			t.Fatalf("CloseLoop(%v) = %v, %d", drops, closed, code)
		}
		left := int64(0)
		for i, n := range closed {
			left += n
			part := drops[i] - n
			// The parts have the sign of the error, and those of a greater size come behind by one at most.
			if size := max(part, -part); part*sum < 0 || size < max(sum, -sum)/int64(len(drops)) || size > max(sum, -sum)/int64(len(drops))+1 {
				t.Errorf("CloseLoop(%v) = %v", drops, closed)
			}
		}
		if left != 0 {
			t.Errorf("CloseLoop(%v) = %v with the sum %d", drops, closed, left)
		}
		// Drops may be beyond their limits when they are closed.
		if most := slices.Max(append([]int64{0}, closed...)); most <= 10000 && slices.Min(append([]int64{0}, closed...)) >= -10000 {
			expect(t, answerOf(impl.LoopError(closed)), answer{0, impl.OK}, "LoopError", closed)
			again, code := impl.CloseLoop(closed)
			expectList(t, again, code, closed, "CloseLoop", "closed drops", closed)
		}
	}
}

func TestLoopsByHand(t *testing.T) {
	cases := []struct {
		drops, closed []int64
		sum           int64
	}{
		{[]int64{30, -10, -14}, []int64{28, -12, -16}, 6},
		{nil, nil, 0},
		{[]int64{0}, []int64{0}, 0},
		{[]int64{7}, []int64{0}, 7},
		{[]int64{-10000}, []int64{0}, -10000},
		{[]int64{1, 1}, []int64{0, 0}, 2},
		{[]int64{2, 1}, []int64{1, -1}, 3},
		{[]int64{-2, -1}, []int64{-1, 1}, -3},
		{[]int64{5, 0, 0}, []int64{4, -2, -2}, 5},
		{[]int64{-5, 0, 0}, []int64{-4, 2, 2}, -5},
		{[]int64{0, 0, 0, 1}, []int64{0, 0, 0, 0}, 1},
		{[]int64{1, 0, 0, 0}, []int64{1, 0, 0, -1}, 1},
		{[]int64{-1, 0, 0, 0}, []int64{-1, 0, 0, 1}, -1},
		{[]int64{-10000, 10000, 10000}, []int64{-13333, 6667, 6666}, 10000},
		{[]int64{10000, -10000, -10000}, []int64{13333, -6667, -6666}, -10000},
		{slices.Repeat([]int64{10000}, 64), make([]int64, 64), 640000},
		{slices.Repeat([]int64{-10000}, 64), make([]int64, 64), -640000},
	}
	for _, c := range cases {
		expect(t, answerOf(impl.LoopError(c.drops)), answer{c.sum, impl.OK}, "LoopError", c.drops)
		got, code := impl.CloseLoop(c.drops)
		expectList(t, got, code, c.closed, "CloseLoop", c.drops)
	}
	wrong := [][]int64{make([]int64, 65), slices.Repeat([]int64{10000}, 65), make([]int64, 100000), {10001}, {-10001}, {math.MinInt64}, {math.MaxInt64}, {0, 10001}, {10001, 0}, {3, -10001, 4}, {math.MinInt64, math.MinInt64}}
	for _, n := range []int64{10001, -10001} {
		wrong = append(wrong, append(make([]int64, 63), n), append(make([]int64, 64), n), append([]int64{n}, make([]int64, 63)...))
	}
	for _, drops := range wrong {
		expect(t, answerOf(impl.LoopError(drops)), failed(impl.ErrRange), "LoopError", drops)
		got, code := impl.CloseLoop(drops)
		expectNoList(t, got, code, impl.ErrRange, "CloseLoop", drops)
	}
}

func TestJunctionError(t *testing.T) {
	full, over := slices.Repeat([]int64{100000}, 64), slices.Repeat([]int64{100000}, 65)
	cases := []struct {
		in, out []int64
		want    answer
	}{
		{nil, nil, answer{0, impl.OK}},
		{[]int64{500, 20}, []int64{300}, answer{220, impl.OK}},
		{[]int64{300}, []int64{500, 20}, answer{-220, impl.OK}},
		{[]int64{7}, nil, answer{7, impl.OK}},
		{nil, []int64{7}, answer{-7, impl.OK}},
		{[]int64{100000, 0}, []int64{100000}, answer{0, impl.OK}},
		{full, nil, answer{6400000, impl.OK}},
		{nil, full, answer{-6400000, impl.OK}},
		{full, full, answer{0, impl.OK}},
		{full, full[1:], answer{100000, impl.OK}},
		{over, nil, failed(impl.ErrFull)},
		{nil, over, failed(impl.ErrFull)},
		{over, over, failed(impl.ErrFull)},
		{make([]int64, 100000), full, failed(impl.ErrFull)},
		{full, make([]int64, 65), failed(impl.ErrFull)},
	}
	for _, c := range cases {
		expect(t, answerOf(impl.JunctionError(c.in, c.out)), c.want, "JunctionError", c.in, c.out)
	}
	// A number that is no flow comes before too many numbers, wherever it stands.
	for _, n := range around(100000) {
		if from(0, 100000, n) {
			continue
		}
		wrong := [][]int64{{n}, {n, 0}, {0, n}, {5, n, 7}, append(make([]int64, 63), n), append(make([]int64, 64), n), append([]int64{n}, over...), append(slices.Clone(over), n)}
		for _, list := range wrong {
			for _, other := range [][]int64{nil, {5}, full, over, {n}} {
				expect(t, answerOf(impl.JunctionError(list, other)), failed(impl.ErrRange), "JunctionError", list, other)
				expect(t, answerOf(impl.JunctionError(other, list)), failed(impl.ErrRange), "JunctionError", other, list)
			}
		}
	}
}

// surveyResults returns what all functions of a list of surveys return.
func surveyResults(list []impl.Survey) []any {
	odd, code := impl.OddSurveys(list)
	all := []any{fmt.Sprint(odd), code}
	for _, airway := range []string{"", "a", "b", "main", "none", "\xff", strings.Repeat("a", 100000)} {
		agreement, code := impl.LargestAgreement(list, airway)
		all = append(all, fmt.Sprint(agreement), code, boundsOf(impl.CommonBounds(list, airway)))
	}
	return all
}

// loopResults returns what all functions of a list of numbers return.
func loopResults(list []int64) []any {
	closed, code := impl.CloseLoop(list)
	return []any{
		fmt.Sprint(closed), code, answerOf(impl.LoopError(list)),
		answerOf(impl.JunctionError(list, list)), answerOf(impl.JunctionError(list, nil)), answerOf(impl.JunctionError([]int64{}, list)),
	}
}

func TestSurveysReturnTheSameForAllArguments(t *testing.T) {
	for _, x := range append(validSurveys(), invalidSurveys()...) {
		twice(t, "the functions of a survey", func() []any {
			return []any{impl.ValidSurvey(x), boundsOf(impl.BoundsOf(x)), answerOf(impl.MiddleOf(x)), impl.SurveyText(x)}
		})
		for _, n := range around(1000000) {
			twice(t, "FitsSurvey", func() []any { return []any{impl.FitsSurvey(x, n)} })
		}
	}
	for _, list := range append(surveyLists(), invalidSurveys(), make([]impl.Survey, 1000)) {
		twice(t, "the functions of surveys", func() []any { return surveyResults(list) })
	}
	for _, list := range append(validLoops(), edgeNumbers(), around(), make([]int64, 1000), slices.Repeat([]int64{math.MinInt64}, 64)) {
		twice(t, "the functions of a loop", func() []any { return loopResults(list) })
	}
	for _, s := range append(oddTexts(), "main 158,2,5000,100", "main 158,2,0,0") {
		twice(t, "ReadSurvey", func() []any { x, ok := impl.ReadSurvey(s); return []any{x, ok} })
	}
	if a, b := surveyResults(nil), surveyResults([]impl.Survey{}); !reflect.DeepEqual(a, b) {
		t.Errorf("no surveys have %v as nil, and else %v", a, b)
	}
	if a, b := loopResults(nil), loopResults([]int64{}); !reflect.DeepEqual(a, b) {
		t.Errorf("no drops have %v as nil, and else %v", a, b)
	}
}

// untouched calls a function with a list that has room behind it, and returns whether both are left as they are.
func untouched[T comparable](list []T, behind T, call func([]T)) bool {
	whole := append(slices.Clone(list), slices.Repeat([]T{behind}, 40)...)
	before := slices.Clone(whole)
	call(whole[:len(list)])
	return slices.Equal(whole, before)
}

func TestSurveysModifyNoArgument(t *testing.T) {
	for _, list := range append(surveyLists(), invalidSurveys()) {
		if !untouched(list, spanning("z", 3, 5), func(list []impl.Survey) { surveyResults(list) }) {
			t.Errorf("%v or what lies behind it is changed", list)
		}
	}
	for _, list := range append(validLoops(), edgeNumbers()) {
		if !untouched(list, -77, func(list []int64) { loopResults(list) }) {
			t.Errorf("%v or what lies behind it is changed", list)
		}
	}
}

func TestSurveysReturnNewMemory(t *testing.T) {
	for _, list := range surveyLists() {
		before, want := slices.Clone(list), surveyResults(list)
		odd, _ := impl.OddSurveys(list)
		spoil(odd, 77)
		agreement, _ := impl.LargestAgreement(list, "a")
		spoil(agreement, 77)
		if !slices.Equal(list, before) || !reflect.DeepEqual(surveyResults(list), want) {
			t.Errorf("results for %v share memory", before)
		}
	}
	for _, drops := range validLoops() {
		before, want := slices.Clone(drops), loopResults(drops)
		closed, _ := impl.CloseLoop(drops)
		spoil(closed, 77)
		if !slices.Equal(drops, before) || !reflect.DeepEqual(loopResults(drops), want) {
			t.Errorf("results for the drops %v share memory", before)
		}
	}
}
