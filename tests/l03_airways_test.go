package tests

import (
	"math"
	"strings"
	"testing"

	"loop.example/g01021/impl"
)

// The declarations of chapter 3, which must keep their types.
var (
	_ func(impl.Airway) bool                                          = impl.ValidAirway
	_ func(impl.Airway) (int64, int64)                                = impl.ResistanceOf
	_ func(int64, int64) (int64, int64)                               = impl.DropOf
	_ func(int64, int64) (int64, int64)                               = impl.FlowFor
	_ func(impl.Airway, int64) (int64, int64)                         = impl.SpeedOf
	_ func(impl.Airway, int64) (int64, int64)                         = impl.TravelTime
	_ func(impl.Airway) (int64, int64)                                = impl.VolumeOf
	_ func(impl.Airway, int64) (int64, int64)                         = impl.FlowLimit
	_ func(int64, int64) (int64, int64)                               = impl.AirPower
	_ func(impl.Airway) (impl.Airway, int64)                          = impl.TurnAirway
	_ func(impl.Airway, int64) (int64, int64)                         = impl.WidenFor
	_ func(impl.Airway) string                                        = impl.AirwayText
	_ func(string) (impl.Airway, bool)                                = impl.ReadAirway
	_ [impl.MaxJunctions + impl.MaxFlow + impl.MaxResistance]struct{} = [1100016]struct{}{}
	_ [impl.MinSection + 3*impl.MaxSection + impl.MaxLength]struct{}  = [25050]struct{}{}
	_ [impl.MaxFriction + 2*impl.MaxShock]struct{}                    = [3000]struct{}{}
)

func mainAirway() impl.Airway {
	return impl.Airway{Id: "main", From: 0, To: 1, Length: 500, Section: 1000, Friction: 100, Shock: 0}
}

// validAirways returns ordinary airways, and those at each limit.
func validAirways() []impl.Airway {
	return []impl.Airway{
		mainAirway(),
		{Id: "a", From: 15, To: 0, Length: 1, Section: 5000, Friction: 1, Shock: 0},
		{Id: "abcdefghij", From: 0, To: 15, Length: 10000, Section: 50, Friction: 1000, Shock: 1000},
		{Id: "a1", From: 7, To: 6, Length: 10000, Section: 5000, Friction: 1000, Shock: 1000},
		{Id: "z9", From: 3, To: 14, Length: 733, Section: 777, Friction: 77, Shock: 7},
		{Id: "b", From: 1, To: 2, Length: 1, Section: 50, Friction: 1, Shock: 1},
		{Id: "c", From: 2, To: 1, Length: 37, Section: 101, Friction: 250, Shock: 3},
	}
}

// invalidAirways returns airways each of which breaks one limit.
func invalidAirways() []impl.Airway {
	list := []impl.Airway{{}}
	with := func(change func(a *impl.Airway)) {
		a := mainAirway()
		change(&a)
		list = append(list, a)
	}
	for _, id := range []string{"", "A", "1a", "a b", " a", "a ", "a-b", "abcdefghijk", "a\n", "\xff"} {
		with(func(a *impl.Airway) { a.Id = id })
	}
	for _, n := range []int64{math.MinInt64, -1, math.MaxInt64} {
		with(func(a *impl.Airway) { a.Shock = n })
		for _, n := range []int64{n, 0} {
			with(func(a *impl.Airway) { a.Length = n })
			with(func(a *impl.Airway) { a.Section = n })
			with(func(a *impl.Airway) { a.Friction = n })
		}
		for _, n := range []int64{n, 16} {
			with(func(a *impl.Airway) { a.From = n })
			with(func(a *impl.Airway) { a.To = n })
		}
	}
	with(func(a *impl.Airway) { a.To = a.From })
	with(func(a *impl.Airway) { a.From, a.To = 15, 15 })
	with(func(a *impl.Airway) { a.Length = 10001 })
	with(func(a *impl.Airway) { a.Section = 49 })
	with(func(a *impl.Airway) { a.Section = 5001 })
	with(func(a *impl.Airway) { a.Friction = 1001 })
	with(func(a *impl.Airway) { a.Shock = 1001 })
	return list
}

func flows() []int64 {
	return append(around(-100000, 100000), -5000, -5001, -99, -5, -4, 4, 5, 99, 500, 5000, 12345)
}

func resistances() []int64 { return append(around(1000000), 7, 1000, 63240, 999983) }

// wantQuotient is the resistance of an airway of another section, without its greatest one.
func wantQuotient(a impl.Airway, section int64) int64 {
	root := int64(0)
	for (root+1)*(root+1) <= section*10000 {
		root++
	}
	top, bottom := a.Friction*(a.Length+a.Shock)*root*400000, section*section*section
	return max(1, (top+bottom/2)/bottom)
}

func wantDrop(resistance, flow int64) int64 {
	if flow < 0 {
		return -wantDrop(resistance, -flow)
	}
	return quotient(resistance*flow*flow, 10000000000)
}

func TestValidAirway(t *testing.T) {
	for _, a := range validAirways() {
		if !impl.ValidAirway(a) {
			t.Errorf("%v is not valid", a)
		}
	}
	for _, a := range invalidAirways() {
		if impl.ValidAirway(a) {
			t.Errorf("%v is valid", a)
		}
	}
}

func TestInvalidAirwaysComeFirst(t *testing.T) {
	for _, a := range invalidAirways() {
		expect(t, answerOf(impl.ResistanceOf(a)), failed(impl.ErrInvalid), "ResistanceOf", a)
		expect(t, answerOf(impl.VolumeOf(a)), failed(impl.ErrInvalid), "VolumeOf", a)
		if turned, code := impl.TurnAirway(a); turned != (impl.Airway{}) || code != impl.ErrInvalid {
			t.Errorf("TurnAirway(%v) = %v, %d", a, turned, code)
		}
		if s := impl.AirwayText(a); s != "" {
			t.Errorf("AirwayText(%v) = %q", a, s)
		}
		// Before the limits of the numbers, and before the state.
		for _, n := range append(flows(), 2000, 2001, 1000000, 1000001) {
			expect(t, answerOf(impl.SpeedOf(a, n)), failed(impl.ErrInvalid), "SpeedOf", a, n)
			expect(t, answerOf(impl.TravelTime(a, n)), failed(impl.ErrInvalid), "TravelTime", a, n)
			expect(t, answerOf(impl.FlowLimit(a, n)), failed(impl.ErrInvalid), "FlowLimit", a, n)
			expect(t, answerOf(impl.WidenFor(a, n)), failed(impl.ErrInvalid), "WidenFor", a, n)
		}
	}
}

func TestResistanceOf(t *testing.T) {
	for _, a := range validAirways() {
		for section := int64(50); section <= 5000; section += 11 {
			a.Section = section
			want := answer{wantQuotient(a, section), impl.OK}
			if want.value > 1000000 {
				want = failed(impl.ErrState)
			}
			expect(t, answerOf(impl.ResistanceOf(a)), want, "ResistanceOf", a)
		}
	}
	cases := []struct {
		length, section, friction, shock int64
		want                             answer
	}{
		{500, 1000, 100, 0, answer{63240, impl.OK}},
		{400, 1000, 100, 100, answer{63240, impl.OK}},
		// A quotient of 0 is replaced by 1, one of 1 is not.
		{1, 5000, 1, 0, answer{1, impl.OK}},
		{22, 5000, 1, 0, answer{1, impl.OK}},
		{23, 5000, 1, 0, answer{1, impl.OK}},
		{66, 5000, 1, 0, answer{1, impl.OK}},
		{67, 5000, 1, 0, answer{2, impl.OK}},
		// MaxResistance may be reached, and is passed by one.
		{25, 100, 100, 0, answer{1000000, impl.OK}},
		{4085, 265, 7, 0, answer{1000000, impl.OK}},
		{4603, 278, 7, 0, failed(impl.ErrState)},
		{9000, 60, 100, 0, failed(impl.ErrState)},
		{10000, 50, 1000, 1000, failed(impl.ErrState)},
	}
	for _, c := range cases {
		a := impl.Airway{Id: "a", To: 1, Length: c.length, Section: c.section, Friction: c.friction, Shock: c.shock}
		expect(t, answerOf(impl.ResistanceOf(a)), c.want, "ResistanceOf", a)
	}
}

func TestDropOf(t *testing.T) {
	for _, resistance := range resistances() {
		for _, flow := range flows() {
			drop, power := failed(impl.ErrRange), failed(impl.ErrRange)
			if from(1, 1000000, resistance) && from(-100000, 100000, flow) {
				drop = answer{wantDrop(resistance, flow), impl.OK}
				power = answer{quotient(drop.value*flow, 100), impl.OK}
			}
			expect(t, answerOf(impl.DropOf(resistance, flow)), drop, "DropOf", resistance, flow)
			expect(t, answerOf(impl.AirPower(resistance, flow)), power, "AirPower", resistance, flow)
		}
	}
	for _, c := range [][4]int64{
		{63240, 5000, 158, 7900}, {63240, -5000, -158, 7900}, {1000000, 100000, 1000000, 1000000000}, {1000000, -100000, -1000000, 1000000000},
		{1, 100000, 1, 1000}, {63240, 0, 0, 0}, {1, 1, 0, 0},
		// Halves are rounded away from 0 on both sides of it.
		{5000, 1000, 1, 10}, {5000, -1000, -1, 10}, {4999, 1000, 0, 0}, {4999, -1000, 0, 0}, {15000, -1000, -2, 20}, {999938, 71, 1, 1}, {999938, -71, -1, 1},
		{904552, 95711, 828623, 793083360}, {904552, -95711, -828623, 793083360},
	} {
		expect(t, answerOf(impl.DropOf(c[0], c[1])), answer{c[2], impl.OK}, "DropOf", c[0], c[1])
		expect(t, answerOf(impl.AirPower(c[0], c[1])), answer{c[3], impl.OK}, "AirPower", c[0], c[1])
	}
}

// TestDropsGrowWithFlows covers P4.
func TestDropsGrowWithFlows(t *testing.T) {
	for _, resistance := range []int64{1, 2, 999, 63240, 500000, 999999, 1000000} {
		before, power := int64(0), int64(0)
		for flow := int64(0); flow <= 100000; flow += 1 + flow/50 {
			drop, code := impl.DropOf(resistance, flow)
			back, other := impl.DropOf(resistance, -flow)
			if code != impl.OK || other != impl.OK || drop < before || back != -drop {
				t.Errorf("drops with the resistance %d and the flow %d: %d, %d, and before it %d", resistance, flow, drop, back, before)
			}
			here, _ := impl.AirPower(resistance, flow)
			there, _ := impl.AirPower(resistance, -flow)
			if here < power || here != there {
				t.Errorf("powers with the resistance %d and the flow %d: %d, %d, and before it %d", resistance, flow, here, there, power)
			}
			before, power = drop, here
		}
		if most, _ := impl.DropOf(resistance, 100000); most != resistance || before == 0 && resistance > 1 {
			t.Errorf("the drop of the greatest flow with the resistance %d is %d", resistance, most)
		}
	}
}

func TestFlowFor(t *testing.T) {
	for _, resistance := range resistances() {
		for _, drop := range append(around(1000000), 158, 159, 62000, 63239, 63240, 63241) {
			if !from(1, 1000000, resistance) || !from(0, 1000000, drop) {
				expect(t, answerOf(impl.FlowFor(resistance, drop)), failed(impl.ErrRange), "FlowFor", resistance, drop)
				continue
			}
			flow, code := impl.FlowFor(resistance, drop)
			expect(t, answer{0, code}, failed(impl.OK), "FlowFor", resistance, drop)
			if !from(0, 100000, flow) || wantDrop(resistance, flow) > drop || flow < 100000 && wantDrop(resistance, flow+1) <= drop {
				t.Errorf("FlowFor(%d, %d) = %d", resistance, drop, flow)
			}
		}
	}
	for _, c := range [][3]int64{{63240, 158, 5006}, {1, 1000000, 100000}, {1, 0, 70710}, {1, 1, 100000}, {1000000, 0, 70}, {1000000, 1000000, 100000}, {1000000, 999999, 99999}, {63240, 63239, 99999}} {
		expect(t, answerOf(impl.FlowFor(c[0], c[1])), answer{c[2], impl.OK}, "FlowFor", c[0], c[1])
	}
}

func TestSpeedsAndTimes(t *testing.T) {
	for _, a := range validAirways() {
		for _, flow := range flows() {
			speed, time := failed(impl.ErrRange), failed(impl.ErrRange)
			if from(-100000, 100000, flow) {
				speed = answer{quotient(100*flow, a.Section), impl.OK}
				time = failed(impl.ErrState)
			}
			if time.code == impl.ErrState && flow != 0 {
				size := max(flow, -flow)
				time = answer{a.Length * a.Section / size, impl.OK}
				if time.value*size < a.Length*a.Section {
					time.value++
				}
			}
			expect(t, answerOf(impl.SpeedOf(a, flow)), speed, "SpeedOf", a, flow)
			expect(t, answerOf(impl.TravelTime(a, flow)), time, "TravelTime", a, flow)
		}
	}
	a := mainAirway()
	for _, c := range [][3]int64{{5000, 500, 100}, {-5000, -500, 100}, {5001, 500, 100}, {-5001, -500, 100}, {4999, 500, 101}, {-4999, -500, 101}, {1, 0, 500000}, {-1, 0, 500000}, {5, 1, 100000}, {-5, -1, 100000}, {-4, 0, 125000}, {100000, 10000, 5}, {-100000, -10000, 5}} {
		expect(t, answerOf(impl.SpeedOf(a, c[0])), answer{c[1], impl.OK}, "SpeedOf", a, c[0])
		expect(t, answerOf(impl.TravelTime(a, c[0])), answer{c[2], impl.OK}, "TravelTime", a, c[0])
	}
	expect(t, answerOf(impl.SpeedOf(a, 0)), answer{0, impl.OK}, "SpeedOf", a, 0)
	expect(t, answerOf(impl.TravelTime(a, 0)), failed(impl.ErrState), "TravelTime", a, 0)
}

func TestVolumesAndLimits(t *testing.T) {
	for _, a := range validAirways() {
		expect(t, answerOf(impl.VolumeOf(a)), answer{a.Length * a.Section, impl.OK}, "VolumeOf", a)
		for _, speed := range append(around(2000), 2, 99, 300, 1999) {
			want := failed(impl.ErrRange)
			if from(0, 2000, speed) {
				want = answer{min(100000, speed*a.Section/100), impl.OK}
			}
			expect(t, answerOf(impl.FlowLimit(a, speed)), want, "FlowLimit", a, speed)
		}
	}
	a := mainAirway()
	expect(t, answerOf(impl.VolumeOf(a)), answer{500000, impl.OK}, "VolumeOf", a)
	expect(t, answerOf(impl.FlowLimit(a, 300)), answer{3000, impl.OK}, "FlowLimit", a, 300)
	expect(t, answerOf(impl.FlowLimit(a, 0)), answer{0, impl.OK}, "FlowLimit", a, 0)
	a.Section = 99
	expect(t, answerOf(impl.FlowLimit(a, 199)), answer{197, impl.OK}, "FlowLimit", a, 199)
	a.Section = 5000
	expect(t, answerOf(impl.FlowLimit(a, 2000)), answer{100000, impl.OK}, "FlowLimit", a, 2000)
}

func TestTurnAirway(t *testing.T) {
	for _, a := range validAirways() {
		want := a
		want.From, want.To = a.To, a.From
		turned, code := impl.TurnAirway(a)
		if turned != want || code != impl.OK {
			t.Errorf("TurnAirway(%v) = %v, %d", a, turned, code)
		}
		if back, _ := impl.TurnAirway(turned); back != a {
			t.Errorf("%v turned twice is %v", a, back)
		}
	}
}

func TestWidenFor(t *testing.T) {
	for _, a := range validAirways() {
		for _, resistance := range resistances() {
			want := failed(impl.ErrRange)
			if from(1, 1000000, resistance) {
				section := int64(50)
				for section <= 5000 && wantQuotient(a, section) > resistance {
					section++
				}
				want = answer{section, impl.OK}
				if section > 5000 {
					want = failed(impl.ErrNotFound)
				}
			}
			expect(t, answerOf(impl.WidenFor(a, resistance)), want, "WidenFor", a, resistance)
		}
	}
	cases := []struct {
		length, section, friction, resistance int64
		want                                  answer
	}{
		{500, 1000, 100, 30000, answer{1348, impl.OK}},
		// The least section may be less than that of the airway, whose own resistance may be too great.
		{500, 5000, 100, 30000, answer{1348, impl.OK}},
		{500, 50, 100, 30000, answer{1348, impl.OK}},
		{1, 5000, 1, 1000000, answer{50, impl.OK}},
		// At both ends of the sections.
		{1, 5000, 1, 2262, answer{50, impl.OK}},
		{1, 5000, 1, 2261, answer{51, impl.OK}},
		{243, 50, 1, 5, answer{5000, impl.OK}},
		{244, 50, 1, 5, failed(impl.ErrNotFound)},
		{10000, 1000, 1000, 1, failed(impl.ErrNotFound)},
		// The limits come before the search.
		{10000, 1000, 1000, 0, failed(impl.ErrRange)},
		{500, 1000, 100, 1000001, failed(impl.ErrRange)},
	}
	for _, c := range cases {
		a := impl.Airway{Id: "a", To: 1, Length: c.length, Section: c.section, Friction: c.friction}
		expect(t, answerOf(impl.WidenFor(a, c.resistance)), c.want, "WidenFor", a, c.resistance)
	}
}

// TestWiderAirwaysHaveLessResistance looks at all sections, because WidenFor bisects them.
func TestWiderAirwaysHaveLessResistance(t *testing.T) {
	for _, a := range validAirways() {
		before := wantQuotient(a, 50)
		for section := int64(51); section <= 5000; section++ {
			here := wantQuotient(a, section)
			if here > before {
				t.Fatalf("%v has the resistance %d with the section %d, but %d with one less", a, here, section, before)
			}
			before = here
		}
	}
}

func airwayText(a impl.Airway) string {
	s := a.Id + " "
	for _, n := range []int64{a.From, a.To, a.Length, a.Section, a.Friction, a.Shock} {
		s += impl.Decimal(n) + ","
	}
	return strings.TrimSuffix(s, ",")
}

func TestAirwaysAreReadBack(t *testing.T) {
	for _, a := range validAirways() {
		s := impl.AirwayText(a)
		if s != airwayText(a) {
			t.Errorf("AirwayText(%v) = %q", a, s)
		}
		if got, ok := impl.ReadAirway(s); got != a || !ok {
			t.Errorf("ReadAirway(%q) = %v, %v", s, got, ok)
		}
	}
	if s := impl.AirwayText(mainAirway()); s != "main 0,1,500,1000,100,0" {
		t.Errorf("the text of the document's airway is %q", s)
	}
	for _, a := range invalidAirways() {
		if got, ok := impl.ReadAirway(airwayText(a)); ok || got != (impl.Airway{}) {
			t.Errorf("ReadAirway(%q) = %v, %v", airwayText(a), got, ok)
		}
	}
}

func TestReadAirwayTakesCanonicalTextsOnly(t *testing.T) {
	texts := append(oddTexts(), "main", "main ", "main -", "main 0,1,500,1000,100", "main 0,1,500,1000,100,0,0", "main 0,1,500,1000,100,0,",
		"main  0,1,500,1000,100,0", " main 0,1,500,1000,100,0", "main 0,1,500,1000,100,0 ", "main 0,1,500,1000,100,0\n", "main\t0,1,500,1000,100,0",
		"main,0,1,500,1000,100,0", "0,1,500,1000,100,0", " 0,1,500,1000,100,0", "Main 0,1,500,1000,100,0", "main 00,1,500,1000,100,0",
		"main +0,1,500,1000,100,0", "main -0,1,500,1000,100,0", "main 0,01,500,1000,100,0", "main 0,1,500,1000,100,-0", "main 0, 1,500,1000,100,0",
		"main 0 1 500 1000 100 0", "main 0,1,500,1000,100,x", "main 0,1,500,1000,,0", "main main 0,1,500,1000,100,0", "main 0,1,500,1000,100,0 main",
		"main 1000000000000000000,1,500,1000,100,0", "a 0,1,1,50,1", "A 0,1,1,50,1,0")
	for _, s := range texts {
		if got, ok := impl.ReadAirway(s); ok || got != (impl.Airway{}) {
			t.Errorf("ReadAirway(%.30q) = %v, %v, want the zero Airway and false", s, got, ok)
		}
	}
}

func TestAirwaysReturnTheSameForAllArguments(t *testing.T) {
	numbers := append(around(-100000, 100000, 1000000, 2000), flows()...)
	for _, a := range append(validAirways(), invalidAirways()...) {
		twice(t, "the functions of an airway", func() []any {
			turned, code := impl.TurnAirway(a)
			return []any{impl.ValidAirway(a), answerOf(impl.ResistanceOf(a)), answerOf(impl.VolumeOf(a)), turned, code, impl.AirwayText(a)}
		})
		for _, n := range numbers {
			twice(t, "the functions of an airway and a number", func() []any {
				return []any{answerOf(impl.SpeedOf(a, n)), answerOf(impl.TravelTime(a, n)), answerOf(impl.FlowLimit(a, n)), answerOf(impl.WidenFor(a, n))}
			})
		}
	}
	for _, a := range numbers {
		for _, b := range numbers {
			twice(t, "the functions of two numbers", func() []any {
				return []any{answerOf(impl.DropOf(a, b)), answerOf(impl.FlowFor(a, b)), answerOf(impl.AirPower(a, b))}
			})
		}
	}
	for _, s := range append(oddTexts(), "main 0,1,500,1000,100,0", "main 0,0,500,1000,100,0") {
		twice(t, "ReadAirway", func() []any { a, ok := impl.ReadAirway(s); return []any{a, ok} })
	}
}
