package tests

import (
	"math"
	"math/big"
	"math/rand"
	"slices"
	"strconv"
	"strings"
	"testing"

	"loop.example/g01021/impl"
)

// The declarations of chapter 1, which must keep their types.
var (
	_ func(int64) string                             = impl.CodeName
	_ func(string) bool                              = impl.IsName
	_ func(int64) string                             = impl.Decimal
	_ func(string) (int64, bool)                     = impl.ReadDecimal
	_ func(string) []string                          = impl.SplitWords
	_ func([]int64) string                           = impl.ListText
	_ func(string) ([]int64, bool)                   = impl.ReadList
	_ func(string, int64) int64                      = impl.Crc16
	_ func(int64) int64                              = impl.RootOf
	_ func(int64, int64) int64                       = impl.DivRound
	_ func(int64, int64, int64, int64, int64) int64  = impl.Blend
	_ [impl.MaxName + impl.MaxList]struct{}          = [74]struct{}{}
	_ [impl.MaxBudget]struct{}                       = [20000]struct{}{}
	_ [impl.MaxValue / 1000000 * 2]struct{}          = [2000000]struct{}{}
	_ [impl.CrcStart + impl.OK + impl.MaxName]string = [65545]string{}
)

func same(t *testing.T, call string, got, want int64) {
	t.Helper()
	if got != want {
		t.Errorf("%s: got %d, want %d", call, got, want)
	}
}

func TestCodesAndConstants(t *testing.T) {
	codes := []int64{impl.OK, impl.ErrInvalid, impl.ErrRange, impl.ErrNotFound, impl.ErrExists, impl.ErrFull, impl.ErrState, impl.ErrOrder, impl.ErrSyntax, impl.ErrFormat, impl.ErrChecksum, impl.ErrTruncated}
	names := []string{"ok", "invalid", "range", "not-found", "exists", "full", "state", "order", "syntax", "format", "checksum", "truncated"}
	for i, code := range codes {
		same(t, "code of "+names[i], code, int64(i))
		if got := impl.CodeName(code); got != names[i] {
			t.Errorf("CodeName(%d) = %q, want %q", code, got, names[i])
		}
	}
	for _, code := range []int64{-1, 12, 13, 100, 256, 1 << 32, math.MinInt64, math.MaxInt64} {
		if got := impl.CodeName(code); got != "" {
			t.Errorf("CodeName(%d) = %q, want the empty string", code, got)
		}
	}
	same(t, "MaxValue", impl.MaxValue, 1000000000000)
	same(t, "CrcStart", impl.CrcStart, 65535)
}

func TestNames(t *testing.T) {
	for b := range 256 {
		letter := 'a' <= b && b <= 'z'
		digit := '0' <= b && b <= '9'
		one := string([]byte{byte(b)})
		if got := impl.IsName(one); got != letter {
			t.Errorf("IsName(%q) = %v", one, got)
		}
		for _, s := range []string{"a" + one, "a" + one + "b", "abcdefghi" + one} {
			if got := impl.IsName(s); got != (letter || digit) {
				t.Errorf("IsName(%q) = %v", s, got)
			}
		}
	}
	wanted := map[string]bool{
		"": false, "z": true, "a123456789": true, "abcdefghij": true, "abcdefghijk": false,
		"a1234567890": false, " a": false, "a ": false, "a b": false, "-a": false, "1a": false,
		"Ab": false, "\u00e4": false, "a\u00e4": false, "a\x00": false, "\xff": false,
		strings.Repeat("a", 100000): false,
	}
	for s, want := range wanted {
		if got := impl.IsName(s); got != want {
			t.Errorf("IsName(%.20q) = %v, want %v", s, got, want)
		}
	}
}

func TestDecimalIsReadBack(t *testing.T) {
	for _, n := range edgeNumbers() {
		s := impl.Decimal(n)
		if want := big.NewInt(n).String(); s != want {
			t.Errorf("Decimal(%s) = %q", want, s)
		}
		got, ok := impl.ReadDecimal(s)
		if short := len(strings.TrimPrefix(s, "-")) <= 18; ok != short {
			t.Errorf("ReadDecimal(%q) = %v, want %v", s, ok, short)
		} else if short {
			same(t, "ReadDecimal("+s+")", got, n)
		} else {
			same(t, "ReadDecimal("+s+")", got, 0)
		}
	}
	wanted := map[string]int64{
		"0": 0, "-1": -1, "10": 10, "-120": -120, "100000000000000000": 100000000000000000,
		"-100000000000000000": -100000000000000000, "999999999999999999": 999999999999999999,
		"-999999999999999999": -999999999999999999,
	}
	for s, want := range wanted {
		n, ok := impl.ReadDecimal(s)
		if !ok {
			t.Errorf("ReadDecimal(%q) finds no number", s)
		}
		same(t, "ReadDecimal("+s+")", n, want)
	}
}

// textsOver returns all texts of at most the given length over an alphabet.
func textsOver(alphabet string, length int) []string {
	all, last := []string{""}, []string{""}
	for range length {
		var next []string
		for _, s := range last {
			for i := range len(alphabet) {
				next = append(next, s+alphabet[i:i+1])
			}
		}
		all, last = append(all, next...), next
	}
	return all
}

// canonical returns the numbers of at most the given number of digits by their decimal forms.
func canonical(limit int64) map[string]int64 {
	forms := map[string]int64{}
	for n := -limit; n <= limit; n++ {
		forms[strconv.FormatInt(n, 10)] = n
	}
	return forms
}

func TestReadDecimalTakesCanonicalTextsOnly(t *testing.T) {
	forms := canonical(99999)
	for _, s := range textsOver("-+0 19", 5) {
		want, is := forms[s]
		got, ok := impl.ReadDecimal(s)
		if ok != is || got != want {
			t.Errorf("ReadDecimal(%q) = %d, %v, want %d, %v", s, got, ok, want, is)
		}
	}
	for _, s := range oddTexts() {
		if n, ok := impl.ReadDecimal(s); ok || n != 0 {
			t.Errorf("ReadDecimal(%.30q) = %d, %v, want 0, false", s, n, ok)
		}
	}
}

func TestSplitWords(t *testing.T) {
	cases := []struct {
		line  string
		words []string
	}{
		{"", nil},
		{" ", nil},
		{"    ", nil},
		{"a", []string{"a"}},
		{" a  bc ", []string{"a", "bc"}},
		{"fan main 3", []string{"fan", "main", "3"}},
		{"   one   two", []string{"one", "two"}},
		{"a\tb c\nd", []string{"a\tb", "c\nd"}},
		{"\t \n", []string{"\t", "\n"}},
		{"\u00a0 \u2003x", []string{"\u00a0", "\u2003x"}},
		{"\xff\xfe \x00", []string{"\xff\xfe", "\x00"}},
		{"a,b -", []string{"a,b", "-"}},
	}
	for _, c := range cases {
		if got := impl.SplitWords(c.line); !slices.Equal(got, c.words) {
			t.Errorf("SplitWords(%q) = %q, want %q", c.line, got, c.words)
		}
	}
	many := impl.SplitWords(strings.Repeat(" ab ", 5000))
	if len(many) != 5000 || many[0] != "ab" || many[4999] != "ab" {
		t.Errorf("SplitWords divides a long line into %d words", len(many))
	}
}

func TestListText(t *testing.T) {
	cases := []struct {
		list []int64
		text string
	}{
		{nil, "-"},
		{[]int64{}, "-"},
		{[]int64{0}, "0"},
		{[]int64{3, 0, -1}, "3,0,-1"},
		{[]int64{5, 5, 4}, "5,5,4"},
		{[]int64{impl.MaxValue}, "1000000000000"},
		{[]int64{-impl.MaxValue, 1}, "-1000000000000,1"},
		{[]int64{impl.MaxValue + 1}, ""},
		{[]int64{-impl.MaxValue - 1}, ""},
		{[]int64{0, impl.MaxValue + 1}, ""},
		{[]int64{0, 1, -impl.MaxValue - 1}, ""},
		{[]int64{math.MinInt64}, ""},
		{[]int64{1, math.MaxInt64, 2}, ""},
		{make([]int64, impl.MaxList), "0" + strings.Repeat(",0", 63)},
		{make([]int64, impl.MaxList+1), ""},
		{make([]int64, 5000), ""},
	}
	for _, c := range cases {
		got := impl.ListText(c.list)
		if got != c.text {
			t.Errorf("ListText(%d numbers) = %q, want %q", len(c.list), got, c.text)
		}
		list, ok := impl.ReadList(got)
		if got == "" {
			if ok {
				t.Errorf("ReadList(%q) is a list", got)
			}
		} else if !ok || !slices.Equal(list, c.list) {
			t.Errorf("ReadList(%q) = %v, %v, want %v", got, list, ok, c.list)
		}
	}
}

func TestListsAreReadBack(t *testing.T) {
	random := rand.New(rand.NewSource(1))
	for range 2000 {
		list := make([]int64, random.Intn(impl.MaxList+1))
		for i := range list {
			list[i] = random.Int63n(2*impl.MaxValue+1) - impl.MaxValue
			if random.Intn(2) == 0 {
				list[i] = random.Int63n(21) - 10
			}
		}
		got, ok := impl.ReadList(impl.ListText(list))
		if !ok || !slices.Equal(got, list) {
			t.Fatalf("%v is read back as %v, %v", list, got, ok)
		}
	}
}

func TestReadListTakesCanonicalTextsOnly(t *testing.T) {
	forms := canonical(999999)
	for _, s := range textsOver("-0,1 +", 6) {
		var want []int64
		is := true
		for _, part := range strings.Split(s, ",") {
			n, canonical := forms[part]
			is = is && canonical
			want = append(want, n)
		}
		if !is {
			want = nil
		}
		got, ok := impl.ReadList(s)
		if ok != (is || s == "-") || !slices.Equal(got, want) {
			t.Errorf("ReadList(%q) = %v, %v, want %v, %v", s, got, ok, want, is)
		}
	}
	full := impl.ListText(make([]int64, impl.MaxList))
	texts := append(oddTexts(), "1000000000001", "-1000000000001", "0,1000000000001", "-1000000000001,0",
		"1,01", "1,-0", "1;2", "1\n", "[1]", "-,-", "--", full+",0", full+",", ","+full, strings.Repeat("1,", 100000)+"1")
	for _, s := range texts {
		if s == "-" {
			continue
		}
		if list, ok := impl.ReadList(s); ok || len(list) != 0 {
			t.Errorf("ReadList(%.30q) = %v, %v, want nil, false", s, list, ok)
		}
	}
}

// crcByBits is Crc16 for a valid start, one bit of the text after the other.
func crcByBits(s string, start uint16) int64 {
	for i := range len(s) {
		for bit := 7; bit >= 0; bit-- {
			differs := start>>15 != uint16(s[i]>>bit&1)
			start <<= 1
			if differs {
				start ^= 4129
			}
		}
	}
	return int64(start)
}

func TestCrc16(t *testing.T) {
	same(t, "the usual check", impl.Crc16("123456789", impl.CrcStart), 10673)
	same(t, "the usual check from 0", impl.Crc16("123456789", 0), 12739)
	for _, start := range []int64{0, 1, 255, 256, 4129, 32767, 32768, 65534, 65535} {
		same(t, "Crc16 of no bytes", impl.Crc16("", start), start)
		for b := range 256 {
			s := string([]byte{byte(b), 'x', byte(b)})
			same(t, "Crc16 of bytes", impl.Crc16(s, start), crcByBits(s, uint16(start)))
		}
		for _, s := range oddTexts() {
			same(t, "Crc16 of an odd text", impl.Crc16(s, start), crcByBits(s, uint16(start)))
		}
		whole := impl.Crc16("airway gallery", start)
		same(t, "Crc16 in two parts", impl.Crc16(" gallery", impl.Crc16("airway", start)), whole)
	}
	for _, start := range []int64{-1, 65536, 65537, -65535, math.MinInt64, math.MaxInt64} {
		same(t, "Crc16 beyond its starts", impl.Crc16("", start), 0)
		same(t, "Crc16 beyond its starts", impl.Crc16("a", start), 0)
	}
}

func TestRootsAreRoundedDown(t *testing.T) {
	numbers := edgeNumbers()
	for r := range int64(2000) {
		numbers = append(numbers, r, r*r-1, r*r, r*r+1)
	}
	random := rand.New(rand.NewSource(2))
	for range 5000 {
		r := random.Int63n(3037000500)
		numbers = append(numbers, r*r-1, r*r, r*r+1, random.Int63()>>random.Intn(63))
	}
	for k := range 63 {
		numbers = append(numbers, 1<<k-1, 1<<k, 1<<k+1)
	}
	for _, n := range numbers {
		want := int64(0)
		if n > 0 {
			want = new(big.Int).Sqrt(big.NewInt(n)).Int64()
		}
		same(t, "RootOf("+impl.Decimal(n)+")", impl.RootOf(n), want)
	}
	same(t, "RootOf(8)", impl.RootOf(8), 2)
	same(t, "RootOf(9)", impl.RootOf(9), 3)
	same(t, "RootOf(-1)", impl.RootOf(-1), 0)
	same(t, "RootOf of the least number", impl.RootOf(math.MinInt64), 0)
	same(t, "RootOf of the greatest number", impl.RootOf(math.MaxInt64), 3037000499)
	same(t, "RootOf of the last square", impl.RootOf(3037000499*3037000499), 3037000499)
	same(t, "RootOf before the last square", impl.RootOf(3037000499*3037000499-1), 3037000498)
}

// exactNearest returns the integer nearest to a / b, of two the one farther from 0.
func exactNearest(a, b *big.Int) *big.Int {
	top := new(big.Int).Abs(a)
	bottom := new(big.Int).Abs(b)
	top.Mul(top, big.NewInt(2)).Add(top, bottom)
	top.Div(top, bottom.Mul(bottom, big.NewInt(2)))
	if a.Sign()*b.Sign() < 0 {
		top.Neg(top)
	}
	return top
}

func exactDivRound(a, b int64) int64 {
	limit := int64(1000000000000)
	if b == 0 || a < -limit || a > limit || b < -limit || b > limit {
		return 0
	}
	return exactNearest(big.NewInt(a), big.NewInt(b)).Int64()
}

func TestQuotientsAreNearest(t *testing.T) {
	for a := int64(-60); a <= 60; a++ {
		for b := int64(-60); b <= 60; b++ {
			same(t, "DivRound("+impl.Decimal(a)+", "+impl.Decimal(b)+")", impl.DivRound(a, b), exactDivRound(a, b))
		}
	}
	for _, a := range edgeNumbers() {
		for _, b := range edgeNumbers() {
			same(t, "DivRound("+impl.Decimal(a)+", "+impl.Decimal(b)+")", impl.DivRound(a, b), exactDivRound(a, b))
		}
	}
	random := rand.New(rand.NewSource(3))
	for range 20000 {
		a := random.Int63n(2*impl.MaxValue+1) - impl.MaxValue
		b := (random.Int63n(2*impl.MaxValue+1) - impl.MaxValue) >> random.Intn(40)
		same(t, "DivRound("+impl.Decimal(a)+", "+impl.Decimal(b)+")", impl.DivRound(a, b), exactDivRound(a, b))
	}
}

func TestQuotientsByHand(t *testing.T) {
	cases := [][3]int64{
		{-5, 2, -3}, {5, 2, 3}, {5, -2, -3}, {-5, -2, 3}, {1, 2, 1}, {-1, 2, -1}, {1, 3, 0}, {-1, 3, 0}, {2, 3, 1}, {-2, 3, -1},
		{0, 7, 0}, {0, -7, 0}, {7, 0, 0}, {-7, 0, 0}, {0, 0, 0},
		{impl.MaxValue, 1, impl.MaxValue}, {impl.MaxValue, -1, -impl.MaxValue}, {-impl.MaxValue, impl.MaxValue, -1},
		{1, impl.MaxValue, 0}, {impl.MaxValue / 2, impl.MaxValue, 1}, {impl.MaxValue/2 - 1, impl.MaxValue, 0}, {-impl.MaxValue / 2, impl.MaxValue, -1},
		{impl.MaxValue + 1, 1, 0}, {-impl.MaxValue - 1, 1, 0}, {impl.MaxValue, impl.MaxValue + 1, 0}, {impl.MaxValue, -impl.MaxValue - 1, 0},
		{math.MinInt64, -1, 0}, {math.MaxInt64, math.MaxInt64, 0}, {math.MinInt64, math.MinInt64, 0}, {1, math.MinInt64, 0},
	}
	for _, c := range cases {
		same(t, "DivRound("+impl.Decimal(c[0])+", "+impl.Decimal(c[1])+")", impl.DivRound(c[0], c[1]), c[2])
	}
}

func exactBlend(x0, y0, x1, y1, x int64) int64 {
	for _, n := range []int64{x0, y0, x1, y1} {
		if n < -1000000 || n > 1000000 {
			return 0
		}
	}
	switch {
	case x <= x0 || x1 <= x0:
		return y0
	case x >= x1:
		return y1
	}
	top := new(big.Int).Mul(big.NewInt(y1-y0), big.NewInt(x-x0))
	return y0 + exactNearest(top, big.NewInt(x1-x0)).Int64()
}

func TestBlend(t *testing.T) {
	cases := [][6]int64{
		{0, 10, 4, 20, 1, 13}, {0, 10, 4, 20, 0, 10}, {0, 10, 4, 20, 4, 20}, {0, 10, 4, 20, -1, 10}, {0, 10, 4, 20, 5, 20},
		{0, 10, 4, 20, 2, 15}, {0, 10, 4, 20, 3, 18}, {0, 0, 4, -6, 1, -2}, {0, 20, 4, 10, 1, 17}, {-4, -3, 4, 4, 0, 1},
		{4, 10, 4, 20, 3, 10}, {4, 10, 4, 20, 4, 10}, {4, 10, 4, 20, 9, 10}, {5, 10, 4, 20, 3, 10}, {5, 10, 4, 20, 9, 10},
		{0, 10, 4, 20, math.MinInt64, 10}, {0, 10, 4, 20, math.MaxInt64, 20},
		{-1000000, -1000000, 1000000, 1000000, 1, 1}, {-1000000, 1000000, 1000000, -1000000, 999999, -999999},
		{-1000000, -1000000, 1000000, 1000000, 1000001, 1000000}, {0, 7, 0, -7, 0, 7},
		{1000001, 10, 4, 20, 9, 0}, {0, 1000001, 4, 20, 1, 0}, {0, 10, 1000001, 20, 5, 0}, {0, 10, 4, 1000001, 1, 0},
		{-1000001, 10, 4, 20, 1, 0}, {0, -1000001, 4, 20, 1, 0}, {0, 10, -1000001, 20, 1, 0}, {0, 10, 4, -1000001, 1, 0},
		{math.MinInt64, 10, math.MaxInt64, 20, 0, 0}, {0, math.MinInt64, 4, math.MaxInt64, 1, 0},
	}
	for _, c := range cases {
		same(t, "Blend of a case", impl.Blend(c[0], c[1], c[2], c[3], c[4]), c[5])
		same(t, "exactBlend of a case", exactBlend(c[0], c[1], c[2], c[3], c[4]), c[5])
	}
	random := rand.New(rand.NewSource(4))
	for range 50000 {
		n := [5]int64{}
		reach := int64(1000001) >> random.Intn(20)
		for i := range n {
			n[i] = random.Int63n(2*reach+1) - reach
		}
		same(t, "Blend at random", impl.Blend(n[0], n[1], n[2], n[3], n[4]), exactBlend(n[0], n[1], n[2], n[3], n[4]))
	}
}
