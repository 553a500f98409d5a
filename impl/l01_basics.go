package impl

import (
	"cmp"
	"math/bits"
	"slices"
	"sort"
	"strconv"
	"strings"
)

// Constants of chapter 1.
const (
	OK           = 0
	ErrInvalid   = 1
	ErrRange     = 2
	ErrNotFound  = 3
	ErrExists    = 4
	ErrFull      = 5
	ErrState     = 6
	ErrOrder     = 7
	ErrSyntax    = 8
	ErrFormat    = 9
	ErrChecksum  = 10
	ErrTruncated = 11
	MaxName      = 10
	MaxList      = 64
	MaxBudget    = 20000
	MaxValue     = 1000000000000
	CrcStart     = 65535
)

const (
	maxDigits = 18
	maxBlend  = 1000000
	maxCrc    = 65535
	crcRule   = 4129
	emptyList = "-"
)

// CodeName returns the name of an error code.
func CodeName(code int64) string {
	names := [...]string{
		OK:           "ok",
		ErrInvalid:   "invalid",
		ErrRange:     "range",
		ErrNotFound:  "not-found",
		ErrExists:    "exists",
		ErrFull:      "full",
		ErrState:     "state",
		ErrOrder:     "order",
		ErrSyntax:    "syntax",
		ErrFormat:    "format",
		ErrChecksum:  "checksum",
		ErrTruncated: "truncated",
	}
	if !within(OK, ErrTruncated, code) {
		return ""
	}
	return names[code]
}

// IsName reports whether s is a name.
func IsName(s string) bool {
	if !within(1, MaxName, len(s)) || !within('a', 'z', s[0]) {
		return false
	}
	for i := range len(s) {
		if !within('a', 'z', s[i]) && !within('0', '9', s[i]) {
			return false
		}
	}
	return true
}

// Decimal returns a number in decimal.
func Decimal(n int64) string { return strconv.FormatInt(n, 10) }

// ReadDecimal returns the number with a decimal form.
func ReadDecimal(s string) (int64, bool) {
	if len(strings.TrimPrefix(s, "-")) > maxDigits {
		return 0, false
	}
	n, err := strconv.ParseInt(s, 10, 64)
	// ParseInt also accepts plus signs, leading zeros and -0, which Decimal never writes.
	if err != nil || Decimal(n) != s {
		return 0, false
	}
	return n, true
}

// SplitWords divides a line at blanks.
func SplitWords(s string) []string {
	// Not strings.Fields: only the blank divides words, a tab or a newline is part of one.
	return strings.FieldsFunc(s, func(r rune) bool { return r == ' ' })
}

// ListText returns a list of numbers as text.
func ListText(list []int64) string {
	if len(list) == 0 {
		return emptyList
	}
	if len(list) > MaxList || !within(-MaxValue, MaxValue, list...) {
		return ""
	}
	parts := make([]string, len(list))
	for i, n := range list {
		parts[i] = Decimal(n)
	}
	return strings.Join(parts, ",")
}

// ReadList returns the list with a text.
func ReadList(s string) ([]int64, bool) {
	if s == emptyList {
		return []int64{}, true
	}
	// One part more than allowed is enough to see that there are too many.
	parts := strings.SplitN(s, ",", MaxList+1)
	if len(parts) > MaxList {
		return nil, false
	}
	list := make([]int64, len(parts))
	for i, part := range parts {
		n, ok := ReadDecimal(part)
		if !ok || !within(-MaxValue, MaxValue, n) {
			return nil, false
		}
		list[i] = n
	}
	return list, true
}

// Crc16 returns the check value of bytes.
func Crc16(s string, start int64) int64 {
	if !within(0, maxCrc, start) {
		return 0
	}
	crc := start
	for i := range len(s) {
		crc ^= int64(s[i]) * 256
		for range 8 {
			crc *= 2
			if crc > maxCrc {
				crc = crc&maxCrc ^ crcRule
			}
		}
	}
	return crc
}

// RootOf returns the square root, rounded down.
func RootOf(n int64) int64 {
	if n < 0 {
		return 0
	}
	root := uint64(0)
	// Squares are compared without signs: a trial root has at most 32 bits, its square at most 64.
	for bit := uint64(1) << (bits.Len64(uint64(n)) / 2); bit > 0; bit /= 2 {
		if trial := root | bit; trial*trial <= uint64(n) {
			root = trial
		}
	}
	return int64(root)
}

// DivRound returns the nearest quotient.
func DivRound(a, b int64) int64 {
	if !within(-MaxValue, MaxValue, a, b) {
		return 0
	}
	return nearest(a, b)
}

// Blend returns a number on a line through two points.
func Blend(x0, y0, x1, y1, x int64) int64 {
	if !within(-maxBlend, maxBlend, x0, y0, x1, y1) {
		return 0
	}
	return onLine(x0, y0, x1, y1, x)
}

// nearest is DivRound without its limits, as the formulas of later chapters round.
func nearest(a, b int64) int64 {
	if b == 0 {
		return 0
	}
	top, bottom := magnitude(a), magnitude(b)
	quotient, rest := top/bottom, top%bottom
	// Twice the rest might not fit, so it is compared with what it lacks.
	if rest >= bottom-rest {
		quotient++
	}
	if (a < 0) != (b < 0) {
		return -int64(quotient)
	}
	return int64(quotient)
}

// onLine is Blend without its limits, as later chapters use it.
func onLine(x0, y0, x1, y1, x int64) int64 {
	if x <= x0 || x1 <= x0 {
		return y0
	}
	if x >= x1 {
		return y1
	}
	return y0 + nearest((y1-y0)*(x-x0), x1-x0)
}

// leastWith returns the least number from low to high that fits, if all above it fit as well; high + 1 if none does.
func leastWith(low, high int64, fits func(int64) bool) int64 {
	steps := sort.Search(int(high-low+1), func(step int) bool { return fits(low + int64(step)) })
	return low + int64(steps)
}

// firstGreatest returns the first index below a count at which a value is greatest, and this value; ErrNotFound if the count is 0.
func firstGreatest(count int, value func(index int64) int64) (int64, int64, int64) {
	best, most, code := int64(0), int64(0), int64(ErrNotFound)
	for index := range int64(count) {
		if n := value(index); code != OK || n > most {
			best, most, code = index, n, OK
		}
	}
	return best, most, code
}

// roundedUp is for numbers that are not negative.
func roundedUp(a, b int64) int64 { return (a + b - 1) / b }

// magnitude has no sign, because that of the least int64 does not fit into an int64.
func magnitude(n int64) uint64 {
	if n < 0 {
		return -uint64(n)
	}
	return uint64(n)
}

// absolute is for numbers within the limits of a chapter, where magnitude is for all.
func absolute(n int64) int64 { return max(n, -n) }

// sumOf is for numbers within the limits of a chapter, whose sum fits.
func sumOf(list []int64) int64 {
	return sumBy(list, func(n int64) int64 { return n })
}

// sumBy is sumOf for numbers that things have.
func sumBy[T any](things []T, number func(T) int64) int64 {
	sum := int64(0)
	for _, thing := range things {
		sum += number(thing)
	}
	return sum
}

// areAll reports whether all things fit.
func areAll[T any](things []T, fits func(T) bool) bool {
	return !slices.ContainsFunc(things, func(thing T) bool { return !fits(thing) })
}

// namedText is the text of a thing with an Id and numbers.
func namedText(id string, numbers ...int64) string { return id + " " + ListText(numbers) }

// readNamed returns the valid thing with a namedText, which is built of its Id and of as many numbers as it has.
func readNamed[T any](s string, count int, build func(id string, numbers []int64) T, valid func(T) bool) (T, bool) {
	id, rest, _ := strings.Cut(s, " ")
	return readNumbers(rest, count, func(numbers []int64) T { return build(id, numbers) }, valid)
}

// readNumbers returns the valid thing whose text is the ListText of its numbers, of which it is built.
func readNumbers[T any](s string, count int, build func(numbers []int64) T, valid func(T) bool) (T, bool) {
	var none T
	numbers, ok := ReadList(s)
	if !ok || len(numbers) != count {
		return none, false
	}
	thing := build(numbers)
	if !valid(thing) {
		return none, false
	}
	return thing, true
}

// within reports whether all values lie from low to high.
func within[T cmp.Ordered](low, high T, values ...T) bool {
	return least(low, values...) == low && greatest(high, values...) == high
}

// isBudget reports whether a number of nodes is one that a search may have.
func isBudget(n int64) bool { return within(1, MaxBudget, n) }

// areIndices reports whether numbers are strictly increasing indices of a list of so many things.
func areIndices(count int, list ...int64) bool {
	return within(0, int64(count)-1, list...) && areIncreasing(list)
}

// areIncreasing reports whether each value is greater than the one before it.
func areIncreasing[T cmp.Ordered](list []T) bool {
	for i, v := range list {
		if i > 0 && v <= list[i-1] {
			return false
		}
	}
	return true
}

func least[T cmp.Ordered](first T, rest ...T) T {
	for _, v := range rest {
		first = min(first, v)
	}
	return first
}

func greatest[T cmp.Ordered](first T, rest ...T) T {
	for _, v := range rest {
		first = max(first, v)
	}
	return first
}
