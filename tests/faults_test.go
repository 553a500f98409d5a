package tests

import (
	"math"
	"slices"
	"strings"
	"testing"

	"loop.example/g01021/impl"
)

// fault is a group of changes that make one argument of all in S wrong, and the code of it in the functions that are told.
type fault[S any] struct {
	argument string
	code     int64
	in       string
	changes  []func(s *S)
}

// faultOfNumber has numbers at all sides beyond the limits of an argument.
func faultOfNumber[S any](argument, in string, low, high int64, set func(s *S, n int64)) fault[S] {
	f := fault[S]{argument: argument, code: impl.ErrRange, in: in}
	for _, n := range []int64{math.MinInt64, low - 1, high + 1, math.MaxInt64} {
		f.changes = append(f.changes, func(s *S) { set(s, n) })
	}
	return f
}

// faultOfLists has lists that are not as stated.
func faultOfLists[S any](argument string, code int64, in string, lists [][]int64, set func(s *S, list []int64)) fault[S] {
	f := fault[S]{argument: argument, code: code, in: in}
	for _, list := range lists {
		f.changes = append(f.changes, func(s *S) { set(s, list) })
	}
	return f
}

// wrongLists returns lists that have not as many numbers as a good one, or one that is not from low to high.
func wrongLists(good []int64, low, high int64) [][]int64 {
	lists := [][]int64{append(slices.Clone(good), low), append(slices.Clone(good), slices.Repeat([]int64{high}, 1000)...)}
	if len(good) > 0 {
		lists = append(lists, nil, good[1:])
	}
	for i := range good {
		for _, n := range []int64{math.MinInt64, low - 1, high + 1, math.MaxInt64} {
			list := slices.Clone(good)
			list[i] = n
			lists = append(lists, list)
		}
	}
	return lists
}

// faultOfMine has all invalid mines.
func faultOfMine[S any](in string, set func(s *S, m impl.Mine)) fault[S] {
	f := fault[S]{argument: "m", code: impl.ErrInvalid, in: in}
	for _, m := range invalidMines() {
		f.changes = append(f.changes, func(s *S) { set(s, m) })
	}
	return f
}

// faulty returns arguments that are good but for one fault, with each change of each fault.
func faulty[S any](good S, faults []fault[S]) []S {
	var list []S
	for _, f := range faults {
		for _, change := range f.changes {
			s := good
			change(&s)
			list = append(list, s)
		}
	}
	return list
}

// codesFor returns the code of each function of which a fault is told: of several that which comes first.
func codesFor[S any](faults ...fault[S]) map[string]int64 {
	codes := map[string]int64{}
	for _, code := range []int64{impl.ErrInvalid, impl.ErrRange, impl.ErrOrder, impl.ErrState} {
		for _, f := range faults {
			for _, name := range strings.Fields(f.in) {
				if f.code == code && codes[name] == impl.OK {
					codes[name] = code
				}
			}
		}
	}
	return codes
}

// expectCodes also expects that the functions without these codes return what they did.
func expectCodes[S any](t *testing.T, s S, outcomes func(S) map[string]outcome, before map[string]outcome, codes map[string]int64) {
	t.Helper()
	for name, got := range outcomes(s) {
		want := before[name]
		if code, is := codes[name]; is {
			want = nothing(code)
		}
		expectOutcome(t, got, want, name, s)
	}
}

// expectErrors expects the codes of each fault alone, and of each pair of them, in arguments with which all functions return OK.
func expectErrors[S any](t *testing.T, good S, outcomes func(S) map[string]outcome, faults []fault[S]) {
	t.Helper()
	before := outcomes(good)
	for name, o := range before {
		if o.code != impl.OK {
			t.Errorf("%s of %v returns the code %d", name, good, o.code)
		}
	}
	for i, first := range faults {
		for _, change := range first.changes {
			s := good
			change(&s)
			expectCodes(t, s, outcomes, before, codesFor(first))
		}
		for _, second := range faults[i+1:] {
			// Of two changes of the same argument only the second one would be left.
			if first.argument == second.argument {
				continue
			}
			for k := range max(len(first.changes), len(second.changes)) {
				s := good
				first.changes[k%len(first.changes)](&s)
				second.changes[k%len(second.changes)](&s)
				expectCodes(t, s, outcomes, before, codesFor(first, second))
			}
		}
	}
}
