package tests

import (
	"math"
	"math/rand"
	"testing"

	"loop.example/g01021/impl"
)

// The declarations of chapter 2, which must keep their types.
var (
	_ func(impl.Air) bool                          = impl.ValidAir
	_ func(int64, int64) (int64, int64)            = impl.DensityOf
	_ func(int64) (int64, int64)                   = impl.SaturationOf
	_ func(int64, int64) (int64, int64)            = impl.VapourOf
	_ func(int64, int64, int64) (int64, int64)     = impl.HumidityFor
	_ func(int64, int64) (int64, int64)            = impl.DewPoint
	_ func(impl.Air) (int64, int64)                = impl.MoistDensity
	_ func(int64, int64, int64) (int64, int64)     = impl.PressureAtDepth
	_ func(int64, int64) (int64, int64)            = impl.MassFlow
	_ func(int64, int64, int64) (int64, int64)     = impl.SameMass
	_ func(int64, int64, int64) (int64, int64)     = impl.FeltTemperature
	_ func(impl.Air) string                        = impl.AirText
	_ func(string) (impl.Air, bool)                = impl.ReadAir
	_ [impl.MostWarmth - 10*impl.LeastWarmth]int64 = [1600]int64{}
	_ [impl.MaxPressure + impl.MaxDepth]struct{}   = [153000]struct{}{}
	_ [impl.MinPressure]struct{}                   = [50000]struct{}{}
)

func warmths() []int64   { return append(around(-100, 600), -75, -50, 25, 150, 312, 575) }
func pressures() []int64 { return append(around(50000, 150000), 101325, 149982, 149983) }

func isAir(x impl.Air) bool {
	return from(-100, 600, x.Temperature) && from(50000, 150000, x.Pressure) && from(0, 1000, x.Humidity)
}

func wantDensity(temperature, pressure int64) int64 {
	return quotient(4000000*pressure, 57410*(5463+2*temperature))
}

func wantSaturation(temperature int64) int64 {
	points := map[int64]int64{-100: 286, -50: 421, 0: 611, 50: 872, 100: 1228, 150: 1705, 200: 2339, 250: 3169, 300: 4246, 350: 5628, 400: 7384, 450: 9593, 500: 12350, 550: 15760, 600: 19940}
	low, high := temperature, temperature
	for points[low] == 0 {
		low--
	}
	for points[high] == 0 {
		high++
	}
	return exactBlend(low, points[low], high, points[high], temperature)
}

func wantVapour(temperature, humidity int64) int64 {
	return quotient(wantSaturation(temperature)*humidity, 1000)
}

func wantHumidityFor(dry, wet, pressure int64) answer {
	if !from(-100, 600, dry, wet) || !from(50000, 150000, pressure) {
		return failed(impl.ErrRange)
	}
	vapour := wantSaturation(wet) - quotient(665*pressure*(dry-wet), 10000000)
	if wet > dry || vapour < 0 {
		return failed(impl.ErrState)
	}
	return answer{quotient(1000*vapour, wantSaturation(dry)), impl.OK}
}

func wantDewPoint(temperature, humidity int64) answer {
	if !from(-100, 600, temperature) || !from(0, 1000, humidity) {
		return failed(impl.ErrRange)
	}
	vapour := wantVapour(temperature, humidity)
	if vapour < 286 {
		return failed(impl.ErrNotFound)
	}
	dew := int64(-100)
	for wantSaturation(dew) < vapour {
		dew++
	}
	return answer{dew, impl.OK}
}

func wantPressureAtDepth(temperature, pressure, depth int64) answer {
	if !from(-100, 600, temperature) || !from(50000, 150000, pressure) || !from(0, 3000, depth) {
		return failed(impl.ErrRange)
	}
	for at := int64(0); at < depth; at += 100 {
		height := min(100, depth-at)
		pressure += quotient(981*height*wantDensity(temperature, pressure), 100000)
	}
	if pressure > 150000 {
		return failed(impl.ErrState)
	}
	return answer{pressure, impl.OK}
}

func wantFelt(dry, wet, speed int64) answer {
	if !from(-100, 600, dry, wet) || !from(0, 2000, speed) {
		return failed(impl.ErrRange)
	}
	if wet > dry {
		return failed(impl.ErrState)
	}
	return answer{quotient(7*wet+3*dry, 10) - min(50, speed/10), impl.OK}
}

func TestValidAir(t *testing.T) {
	for _, temperature := range warmths() {
		for _, pressure := range pressures() {
			for _, humidity := range append(around(1000), 500) {
				x := impl.Air{Temperature: temperature, Pressure: pressure, Humidity: humidity}
				if got := impl.ValidAir(x); got != isAir(x) {
					t.Errorf("ValidAir(%v) = %v", x, got)
				}
			}
		}
	}
}

func TestDensity(t *testing.T) {
	for _, temperature := range warmths() {
		for _, pressure := range pressures() {
			want := failed(impl.ErrRange)
			if from(-100, 600, temperature) && from(50000, 150000, pressure) {
				want = answer{wantDensity(temperature, pressure), impl.OK}
			}
			expect(t, answerOf(impl.DensityOf(temperature, pressure)), want, "DensityOf", temperature, pressure)
		}
	}
	random := rand.New(rand.NewSource(5))
	for range 30000 {
		temperature, pressure := random.Int63n(701)-100, 50000+random.Int63n(100001)
		want := answer{wantDensity(temperature, pressure), impl.OK}
		expect(t, answerOf(impl.DensityOf(temperature, pressure)), want, "DensityOf", temperature, pressure)
	}
	for _, c := range [][3]int64{{150, 101325, 1225}, {150, 100000, 1209}, {-100, 150000, 1986}, {600, 50000, 523}} {
		expect(t, answerOf(impl.DensityOf(c[0], c[1])), answer{c[2], impl.OK}, "DensityOf", c[0], c[1])
	}
}

func TestSaturation(t *testing.T) {
	for temperature := int64(-100); temperature <= 600; temperature++ {
		want := answer{wantSaturation(temperature), impl.OK}
		expect(t, answerOf(impl.SaturationOf(temperature)), want, "SaturationOf", temperature)
	}
	for _, c := range [][2]int64{{-100, 286}, {-99, 289}, {0, 611}, {25, 742}, {575, 17850}, {599, 19856}, {600, 19940}} {
		expect(t, answerOf(impl.SaturationOf(c[0])), answer{c[1], impl.OK}, "SaturationOf", c[0])
	}
	for _, temperature := range []int64{math.MinInt64, -101, 601, math.MaxInt64} {
		expect(t, answerOf(impl.SaturationOf(temperature)), failed(impl.ErrRange), "SaturationOf", temperature)
	}
}

func TestVapour(t *testing.T) {
	for _, temperature := range warmths() {
		for _, humidity := range append(around(1000), 333, 500, 987) {
			want := failed(impl.ErrRange)
			if from(-100, 600, temperature) && from(0, 1000, humidity) {
				want = answer{wantVapour(temperature, humidity), impl.OK}
			}
			expect(t, answerOf(impl.VapourOf(temperature, humidity)), want, "VapourOf", temperature, humidity)
		}
	}
	for _, c := range [][3]int64{{0, 500, 306}, {0, 499, 305}, {0, 0, 0}, {600, 1000, 19940}, {-100, 1, 0}, {-100, 2, 1}} {
		expect(t, answerOf(impl.VapourOf(c[0], c[1])), answer{c[2], impl.OK}, "VapourOf", c[0], c[1])
	}
}

func TestHumidityFor(t *testing.T) {
	for _, dry := range warmths() {
		for _, wet := range warmths() {
			for _, pressure := range pressures() {
				expect(t, answerOf(impl.HumidityFor(dry, wet, pressure)), wantHumidityFor(dry, wet, pressure), "HumidityFor", dry, wet, pressure)
			}
		}
	}
	random := rand.New(rand.NewSource(6))
	for range 30000 {
		dry, pressure := random.Int63n(701)-100, 50000+random.Int63n(100001)
		wet := max(-100, dry-random.Int63n(300))
		expect(t, answerOf(impl.HumidityFor(dry, wet, pressure)), wantHumidityFor(dry, wet, pressure), "HumidityFor", dry, wet, pressure)
	}
	cases := []struct {
		dry, wet, pressure int64
		want               answer
	}{
		{200, 200, 100000, answer{1000, impl.OK}},
		{200, 150, 100000, answer{587, impl.OK}},
		// What is taken off is just less than a half more than a whole number.
		{-11, -70, 88314, answer{37, impl.OK}},
		// The wet thermometer may not be the warmer one, not even by the least step.
		{200, 201, 100000, failed(impl.ErrState)},
		// With the next pascal the vapour is less than nothing.
		{-20, -100, 53853, answer{0, impl.OK}},
		{-20, -100, 53854, failed(impl.ErrState)},
		// The limits come before the state.
		{200, 210, 150001, failed(impl.ErrRange)},
		{200, 210, 49999, failed(impl.ErrRange)},
		{200, 601, 100000, failed(impl.ErrRange)},
		{-101, -100, 100000, failed(impl.ErrRange)},
	}
	for _, c := range cases {
		expect(t, answerOf(impl.HumidityFor(c.dry, c.wet, c.pressure)), c.want, "HumidityFor", c.dry, c.wet, c.pressure)
	}
}

// TestDewPointIsTheLeast covers the second half of P3.
func TestDewPointIsTheLeast(t *testing.T) {
	for _, temperature := range warmths() {
		for _, humidity := range append(around(1000), 7, 500) {
			expect(t, answerOf(impl.DewPoint(temperature, humidity)), wantDewPoint(temperature, humidity), "DewPoint", temperature, humidity)
		}
	}
	for temperature := int64(-100); temperature <= 600; temperature += 9 {
		for humidity := int64(0); humidity <= 1000; humidity += 17 {
			dew, code := impl.DewPoint(temperature, humidity)
			vapour, _ := impl.VapourOf(temperature, humidity)
			if (code == impl.ErrNotFound) != (vapour < 286) {
				t.Fatalf("DewPoint(%d, %d) has the code %d with the vapour %d", temperature, humidity, code, vapour)
			}
			if code == impl.ErrNotFound {
				continue
			}
			if enough, _ := impl.SaturationOf(dew); enough < vapour {
				t.Errorf("DewPoint(%d, %d) = %d, which holds %d of %d", temperature, humidity, dew, enough, vapour)
			}
			if less, code := impl.SaturationOf(dew - 1); code == impl.OK && less >= vapour {
				t.Errorf("DewPoint(%d, %d) = %d, but one less holds %d of %d", temperature, humidity, dew, less, vapour)
			}
		}
	}
}

func TestDewPointByHand(t *testing.T) {
	cases := []struct {
		temperature, humidity int64
		want                  answer
	}{
		{0, 1000, answer{0, impl.OK}},
		{600, 1000, answer{600, impl.OK}},
		{-100, 1000, answer{-100, impl.OK}},
		// 286 pascals of vapour are just enough, 285 are not.
		{0, 468, answer{-100, impl.OK}},
		{0, 467, failed(impl.ErrNotFound)},
		{-100, 999, answer{-100, impl.OK}},
		{-100, 998, failed(impl.ErrNotFound)},
		{0, 469, answer{-99, impl.OK}},
		{0, 0, failed(impl.ErrNotFound)},
		{-101, 1000, failed(impl.ErrRange)},
		{601, 0, failed(impl.ErrRange)},
		{0, 1001, failed(impl.ErrRange)},
		{-100, -1, failed(impl.ErrRange)},
	}
	for _, c := range cases {
		expect(t, answerOf(impl.DewPoint(c.temperature, c.humidity)), c.want, "DewPoint", c.temperature, c.humidity)
	}
}

func TestMoistDensity(t *testing.T) {
	for _, temperature := range warmths() {
		for _, pressure := range pressures() {
			for _, humidity := range append(around(1000), 500) {
				x := impl.Air{Temperature: temperature, Pressure: pressure, Humidity: humidity}
				want := failed(impl.ErrInvalid)
				if isAir(x) {
					less := quotient(378*wantVapour(temperature, humidity), 1000)
					want = answer{wantDensity(temperature, pressure-less), impl.OK}
				}
				expect(t, answerOf(impl.MoistDensity(x)), want, "MoistDensity", x)
			}
		}
	}
	// Here the pressure without its vapour is less than MinPressure.
	thin := impl.Air{Temperature: 600, Pressure: 50000, Humidity: 1000}
	expect(t, answerOf(impl.MoistDensity(thin)), answer{444, impl.OK}, "MoistDensity", thin)
	expect(t, answerOf(impl.MoistDensity(impl.Air{})), failed(impl.ErrInvalid), "MoistDensity", impl.Air{})
}

func TestPressureAtDepth(t *testing.T) {
	for _, temperature := range warmths() {
		for _, pressure := range pressures() {
			for _, depth := range append(around(100, 200, 3000), 50, 1234, 2950) {
				expect(t, answerOf(impl.PressureAtDepth(temperature, pressure, depth)), wantPressureAtDepth(temperature, pressure, depth), "PressureAtDepth", temperature, pressure, depth)
			}
		}
	}
	for depth := int64(0); depth <= 3000; depth++ {
		expect(t, answerOf(impl.PressureAtDepth(280, 101325, depth)), wantPressureAtDepth(280, 101325, depth), "PressureAtDepth", 280, 101325, depth)
	}
	cases := []struct {
		temperature, pressure, depth int64
		want                         answer
	}{
		{150, 101325, 0, answer{101325, impl.OK}},
		{150, 100000, 100, answer{101186, impl.OK}},
		{150, 100000, 150, answer{101786, impl.OK}},
		{-100, 50000, 3000, answer{73636, impl.OK}},
		{150, 150000, 0, answer{150000, impl.OK}},
		// MaxPressure may be reached, and is passed with one pascal more.
		{150, 149982, 1, answer{150000, impl.OK}},
		{150, 149983, 1, failed(impl.ErrState)},
		{-100, 150000, 3000, failed(impl.ErrState)},
		// The limits come before the state.
		{-100, 150000, 3001, failed(impl.ErrRange)},
		{-101, 150000, 3000, failed(impl.ErrRange)},
		{-100, 150001, 3000, failed(impl.ErrRange)},
		{150, 101325, -1, failed(impl.ErrRange)},
	}
	for _, c := range cases {
		expect(t, answerOf(impl.PressureAtDepth(c.temperature, c.pressure, c.depth)), c.want, "PressureAtDepth", c.temperature, c.pressure, c.depth)
	}
}

func TestMasses(t *testing.T) {
	densities := append(around(5000), 7, 1200)
	for _, flow := range append(around(-100000, 100000), -3333, -50, 49, 50, 1000) {
		for _, density := range densities {
			want := failed(impl.ErrRange)
			if from(-100000, 100000, flow) && from(1, 5000, density) {
				want = answer{quotient(flow*density, 100), impl.OK}
			}
			expect(t, answerOf(impl.MassFlow(flow, density)), want, "MassFlow", flow, density)
			for _, other := range densities {
				want := failed(impl.ErrRange)
				if from(-100000, 100000, flow) && from(1, 5000, density, other) {
					want = answer{quotient(flow*density, other), impl.OK}
				}
				expect(t, answerOf(impl.SameMass(flow, density, other)), want, "SameMass", flow, density, other)
			}
		}
	}
	// Halves are rounded away from 0 on both sides of it.
	for _, c := range [][3]int64{{1000, 1200, 12000}, {-1000, 1200, -12000}, {50, 1, 1}, {-50, 1, -1}, {49, 1, 0}, {-49, 1, 0}, {0, 5000, 0}, {100000, 5000, 5000000}, {-100000, 5000, -5000000}} {
		expect(t, answerOf(impl.MassFlow(c[0], c[1])), answer{c[2], impl.OK}, "MassFlow", c[0], c[1])
	}
	for _, c := range [][4]int64{{1000, 1200, 1000, 1200}, {-1000, 1200, 1000, -1200}, {1, 1, 2, 1}, {-1, 1, 2, -1}, {-1, 1, 3, 0}, {100000, 5000, 1, 500000000}, {-100000, 5000, 1, -500000000}} {
		expect(t, answerOf(impl.SameMass(c[0], c[1], c[2])), answer{c[3], impl.OK}, "SameMass", c[0], c[1], c[2])
	}
}

func TestFeltTemperature(t *testing.T) {
	for _, dry := range append(warmths(), 2, 5) {
		for _, wet := range append(warmths(), -5, -2) {
			for _, speed := range append(around(500, 510, 2000), 9, 10, 19, 100) {
				expect(t, answerOf(impl.FeltTemperature(dry, wet, speed)), wantFelt(dry, wet, speed), "FeltTemperature", dry, wet, speed)
			}
		}
	}
	cases := []struct {
		dry, wet, speed int64
		want            answer
	}{
		{300, 300, 100, answer{290, impl.OK}},
		{300, 200, 0, answer{230, impl.OK}},
		{300, 300, 499, answer{251, impl.OK}},
		{300, 300, 500, answer{250, impl.OK}},
		{300, 300, 2000, answer{250, impl.OK}},
		{-100, -100, 2000, answer{-150, impl.OK}},
		{0, -5, 9, answer{-4, impl.OK}},
		{5, 0, 9, answer{2, impl.OK}},
		{300, 301, 0, failed(impl.ErrState)},
		{300, 301, 2001, failed(impl.ErrRange)},
		{300, 301, -1, failed(impl.ErrRange)},
		{600, 601, 0, failed(impl.ErrRange)},
		{-101, -100, 0, failed(impl.ErrRange)},
	}
	for _, c := range cases {
		expect(t, answerOf(impl.FeltTemperature(c.dry, c.wet, c.speed)), c.want, "FeltTemperature", c.dry, c.wet, c.speed)
	}
}

// TestWarmerAirIsLighter covers the first half of P3; lower air is that of a lower pressure.
func TestWarmerAirIsLighter(t *testing.T) {
	density := func(temperature, pressure, humidity int64) int64 {
		moist, code := impl.MoistDensity(impl.Air{Temperature: temperature, Pressure: pressure, Humidity: humidity})
		expect(t, answer{0, code}, failed(impl.OK), "MoistDensity", temperature, pressure, humidity)
		if dry, _ := impl.DensityOf(temperature, pressure); dry < moist || humidity == 0 && dry != moist {
			t.Errorf("air of %d, %d has the density %d, with the humidity %d %d", temperature, pressure, dry, humidity, moist)
		}
		return moist
	}
	for temperature := int64(-100); temperature <= 575; temperature += 25 {
		for pressure := int64(50000); pressure <= 145000; pressure += 5000 {
			for humidity := int64(0); humidity <= 900; humidity += 100 {
				one := density(temperature, pressure, humidity)
				if density(temperature+1, pressure, humidity) > one || density(temperature, pressure+1, humidity) < one || density(temperature, pressure, humidity+1) > one {
					t.Errorf("air of %d, %d, %d has the density %d, and is heavier with the next number", temperature, pressure, humidity, one)
				}
				if density(temperature+25, pressure, humidity) >= one || density(temperature, pressure+5000, humidity) <= one {
					t.Errorf("air of %d, %d, %d has the density %d, and much other air has the same", temperature, pressure, humidity, one)
				}
			}
			if density(600, pressure, 1000) >= density(600, pressure, 0) {
				t.Errorf("moist air at %d pascals is not lighter than dry air", pressure)
			}
		}
	}
}

func TestAirIsReadBack(t *testing.T) {
	for _, temperature := range warmths() {
		for _, pressure := range pressures() {
			for _, humidity := range append(around(1000), 500) {
				x := impl.Air{Temperature: temperature, Pressure: pressure, Humidity: humidity}
				s := impl.Decimal(temperature) + "," + impl.Decimal(pressure) + "," + impl.Decimal(humidity)
				text, want := "", impl.Air{}
				if isAir(x) {
					text, want = s, x
				}
				if got := impl.AirText(x); got != text {
					t.Errorf("AirText(%v) = %q, want %q", x, got, text)
				}
				if got, ok := impl.ReadAir(s); got != want || ok != isAir(x) {
					t.Errorf("ReadAir(%q) = %v, %v, want %v, %v", s, got, ok, want, isAir(x))
				}
			}
		}
	}
}

func TestReadAirTakesCanonicalTextsOnly(t *testing.T) {
	want := impl.Air{Temperature: 150, Pressure: 101325, Humidity: 0}
	if got, ok := impl.ReadAir("150,101325,0"); got != want || !ok || impl.AirText(got) != "150,101325,0" {
		t.Errorf("ReadAir of ordinary air = %v, %v", got, ok)
	}
	texts := append(oddTexts(), "150", "150,101325", "150,101325,0,0", "150,101325,0,", ",150,101325,0", "150,,0",
		"0150,101325,0", "+150,101325,0", "150,101325,-0", "-0,101325,0", "150,101325,00", "150, 101325,0", " 150,101325,0", "150,101325,0 ",
		"150,101325,0\n", "150 101325 0", "150;101325;0", "15.0,101325,0", "150,101325,x", "air 150,101325,0", "150,101325,1000000000000000000",
		"-101,101325,0", "601,101325,0", "150,49999,0", "150,150001,0", "150,101325,-1", "150,101325,1001")
	for _, s := range texts {
		if got, ok := impl.ReadAir(s); ok || got != (impl.Air{}) {
			t.Errorf("ReadAir(%.30q) = %v, %v, want the zero Air and false", s, got, ok)
		}
	}
}

func TestAirReturnsTheSameForAllArguments(t *testing.T) {
	numbers := around(-100, 600, 50000, 150000, 1000, 3000, 5000, -100000, 100000)
	for _, a := range numbers {
		twice(t, "SaturationOf", func() []any { return []any{answerOf(impl.SaturationOf(a))} })
		for _, b := range numbers {
			twice(t, "the functions of two numbers", func() []any {
				return []any{answerOf(impl.DensityOf(a, b)), answerOf(impl.VapourOf(a, b)), answerOf(impl.DewPoint(a, b)), answerOf(impl.MassFlow(a, b))}
			})
			for _, c := range numbers {
				x := impl.Air{Temperature: a, Pressure: b, Humidity: c}
				twice(t, "the functions of three numbers", func() []any {
					return []any{answerOf(impl.HumidityFor(a, b, c)), answerOf(impl.PressureAtDepth(a, b, c)), answerOf(impl.SameMass(a, b, c)), answerOf(impl.FeltTemperature(a, b, c))}
				})
				twice(t, "the functions of air", func() []any {
					return []any{impl.ValidAir(x), answerOf(impl.MoistDensity(x)), impl.AirText(x)}
				})
			}
		}
	}
	for _, s := range append(oddTexts(), "150,101325,0", "150,101325,1001") {
		twice(t, "ReadAir", func() []any { x, ok := impl.ReadAir(s); return []any{x, ok} })
	}
}
