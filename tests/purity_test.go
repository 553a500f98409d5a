package tests

import (
	"math"
	"reflect"
	"slices"
	"strings"
	"testing"

	"loop.example/g01021/impl"
)

// edgeNumbers returns numbers at and beyond all limits of chapter 1.
func edgeNumbers() []int64 {
	numbers := []int64{math.MinInt64, math.MinInt64 + 1, 0, math.MaxInt64 - 1, math.MaxInt64}
	for _, n := range []int64{1, 2, 9, 10, 12, 64, 65535, 65536, 999999, 1000000, 1000001, 1 << 32, 3037000499, 3037000500, impl.MaxValue - 1, impl.MaxValue, impl.MaxValue + 1, 999999999999999999, 1000000000000000000} {
		numbers = append(numbers, n, -n)
	}
	return numbers
}

// oddTexts returns texts that are no numbers in decimal.
func oddTexts() []string {
	return []string{
		"", " ", "-", "--", "+", "+1", "-0", "+0", "00", "01", "-01", "- 1", "1 ", " 1", "1\t", "1\n", "\n", "1-", "1-1",
		"0x1", "1_000", "1e3", "1.0", "1a", "a1", "a", "nil", "\x00", "0\x00", "\xff", "1\xff", "\uff11", "\u0661", "\u22121",
		"1234567890123456789", "-1234567890123456789", "1000000000000000000", "9223372036854775807", "-9223372036854775808",
		"9223372036854775808", "99999999999999999999", "000000000000000000", "0000000000000000001", strings.Repeat("9", 100000), strings.Repeat(" ", 100000),
	}
}

// twice calls a function of the program two times, which must return, without a panic, the same.
func twice(t *testing.T, name string, call func() []any) {
	t.Helper()
	defer func() {
		if p := recover(); p != nil {
			t.Errorf("%s panics: %v", name, p)
		}
	}()
	if a, b := call(), call(); !reflect.DeepEqual(a, b) {
		t.Errorf("%s returns %v, and then %v", name, a, b)
	}
}

func TestBasicsReturnTheSameForAllArguments(t *testing.T) {
	numbers := edgeNumbers()
	for _, a := range numbers {
		twice(t, "CodeName", func() []any { return []any{impl.CodeName(a)} })
		twice(t, "Decimal", func() []any { return []any{impl.Decimal(a)} })
		twice(t, "RootOf", func() []any { return []any{impl.RootOf(a)} })
		twice(t, "ListText", func() []any { return []any{impl.ListText([]int64{a}), impl.ListText([]int64{0, a})} })
		for _, b := range numbers {
			twice(t, "DivRound", func() []any { return []any{impl.DivRound(a, b)} })
			for _, c := range numbers {
				twice(t, "Blend", func() []any {
					return []any{impl.Blend(a, b, c, 7, 1), impl.Blend(a, 7, b, -7, c), impl.Blend(-3, a, 4, b, c), impl.Blend(a, c, a, b, c)}
				})
			}
		}
	}
	for _, s := range append(oddTexts(), "7", "-7", "a1", "1,2", "1,2,", "-,1") {
		twice(t, "IsName", func() []any { return []any{impl.IsName(s)} })
		twice(t, "ReadDecimal", func() []any { n, ok := impl.ReadDecimal(s); return []any{n, ok} })
		twice(t, "SplitWords", func() []any { return []any{impl.SplitWords(s)} })
		twice(t, "ReadList", func() []any { list, ok := impl.ReadList(s); return []any{list, ok} })
		for _, n := range numbers {
			if len(s) < 100 {
				twice(t, "Crc16", func() []any { return []any{impl.Crc16(s, n)} })
			}
		}
	}
}

func TestBasicsModifyNoArgument(t *testing.T) {
	for _, used := range []int{0, 1, 5, impl.MaxList, impl.MaxList + 1} {
		whole := make([]int64, 80)
		for i := range whole {
			whole[i] = int64(i) - 3
		}
		before := slices.Clone(whole)
		impl.ListText(whole[:used])
		if !slices.Equal(whole, before) {
			t.Errorf("ListText changes a list of %d numbers or what lies behind it", used)
		}
	}
	if impl.ListText(nil) != impl.ListText([]int64{}) {
		t.Error("ListText tells nil from an empty list")
	}
}

func TestBasicsReturnNewMemory(t *testing.T) {
	list, _ := impl.ReadList("1,2,3")
	list[0] = 9
	_ = append(list, 9)
	if again, _ := impl.ReadList("1,2,3"); !slices.Equal(again, []int64{1, 2, 3}) {
		t.Errorf("ReadList returns a list that was changed before: %v", again)
	}
	words := impl.SplitWords("a b")
	words[0] = "z"
	if again := impl.SplitWords("a b"); !slices.Equal(again, []string{"a", "b"}) {
		t.Errorf("SplitWords returns words that were changed before: %q", again)
	}
	none, _ := impl.ReadList("-")
	_ = append(none, 9)
	if again, ok := impl.ReadList("-"); !ok || len(again) != 0 {
		t.Errorf("ReadList returns %v for no numbers", again)
	}
}
