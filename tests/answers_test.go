package tests

import (
	"math"
	"math/big"
	"testing"
)

// answer is what a function with a code returns.
type answer struct{ value, code int64 }

func answerOf(value, code int64) answer { return answer{value, code} }

func failed(code int64) answer { return answer{0, code} }

func expect(t *testing.T, got, want answer, name string, args ...any) {
	t.Helper()
	if got != want {
		t.Errorf("%s of %v: got %d with the code %d, want %d with the code %d", name, args, got.value, got.code, want.value, want.code)
	}
}

// around returns numbers at, before and behind limits, and those farthest from all of them.
func around(limits ...int64) []int64 {
	numbers := []int64{math.MinInt64, math.MinInt64 + 1, -1, 0, 1, math.MaxInt64 - 1, math.MaxInt64}
	for _, n := range limits {
		numbers = append(numbers, n-1, n, n+1)
	}
	return numbers
}

func from(low, high int64, n ...int64) bool {
	for _, v := range n {
		if v < low || v > high {
			return false
		}
	}
	return true
}

// quotient returns the integer nearest to a / b, of two the one farther from 0.
func quotient(a, b int64) int64 { return exactNearest(big.NewInt(a), big.NewInt(b)).Int64() }
