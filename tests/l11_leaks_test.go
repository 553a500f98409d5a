package tests

import (
	"fmt"
	"math"
	"math/rand"
	"reflect"
	"slices"
	"strings"
	"testing"

	"loop.example/g01021/impl"
)

// The declarations of chapter 11, which must keep their types.
var (
	_ func(impl.Duct) bool                                     = impl.ValidDuct
	_ func(impl.Duct) (joints, code int64)                     = impl.JointsOf
	_ func(d impl.Duct, flow, joints int64) (left, code int64) = impl.FlowAfter
	_ func(d impl.Duct, flow int64) (left, code int64)         = impl.FlowAtEnd
	_ func(d impl.Duct, need int64) (flow, code int64)         = impl.FlowNeeded
	_ func(d impl.Duct, flow, need int64) (length, code int64) = impl.LongestDuct
	_ func(flows []int64) (joint, loss, code int64)            = impl.LeakAt
	_ func(flows []int64) ([]int64, int64)                     = impl.LossesOf
	_ func(flows []int64) (loss, code int64)                   = impl.MeanLoss
	_ func(flows []int64, k int64) ([]int64, int64)            = impl.MendJoint
	_ func(impl.Duct) string                                   = impl.DuctText
	_ func(string) (impl.Duct, bool)                           = impl.ReadDuct
	_ [impl.MaxDuct]struct{}                                   = [2000]struct{}{}
	_ [impl.MinJoint]struct{}                                  = [5]struct{}{}
	_ [impl.MaxJoint]struct{}                                  = [50]struct{}{}
	_ [impl.MaxLoss]struct{}                                   = [100000]struct{}{}
	_ [impl.Whole]struct{}                                     = [1000000]struct{}{}
	_                                                          = impl.Duct{Id: "", Length: int64(0), Joint: int64(0), Loss: int64(0)}
)

func ductOf(length, joint, loss int64) impl.Duct {
	return impl.Duct{Id: "d1", Length: length, Joint: joint, Loss: loss}
}

func mainDuct() impl.Duct { return ductOf(100, 10, 20000) }

// validDucts returns ducts at each limit, with an end at, before and behind where a joint would be, and many at random.
func validDucts() []impl.Duct {
	list := []impl.Duct{
		mainDuct(), {Id: "a", Length: 1, Joint: 5, Loss: 0}, {Id: "abcdefghij", Length: 2000, Joint: 50, Loss: 100000}, {Id: "z9", Length: 2000, Joint: 5, Loss: 1},
		ductOf(2000, 5, 100000), ductOf(1, 50, 100000), ductOf(1999, 7, 99999), ductOf(2000, 7, 12345), ductOf(51, 50, 500000/7), ductOf(30, 10, 50000),
	}
	for _, joint := range []int64{5, 6, 7, 10, 13, 49, 50} {
		for _, length := range []int64{1, joint - 1, joint, joint + 1, 2*joint - 1, 2 * joint, 2*joint + 1, 1999, 2000} {
			list = append(list, ductOf(length, joint, 1000*joint+length))
		}
	}
	random := rand.New(rand.NewSource(11))
	for range 150 {
		list = append(list, ductOf(1+random.Int63n(2000), 5+random.Int63n(46), anyNumbers(random, 1, 0, 100000)[0]))
	}
	return list
}

// invalidDucts returns ducts each of which breaks one rule.
func invalidDucts() []impl.Duct {
	list := []impl.Duct{{}}
	with := func(change func(d *impl.Duct)) {
		d := mainDuct()
		change(&d)
		list = append(list, d)
	}
	for _, id := range []string{"", "D", "1d", "a b", " a", "a ", "a-b", "abcdefghijk", "a\n", "\xff"} {
		with(func(d *impl.Duct) { d.Id = id })
	}
	for _, n := range []int64{math.MinInt64, -1, 0, 2001, math.MaxInt64} {
		with(func(d *impl.Duct) { d.Length = n })
	}
	for _, n := range []int64{math.MinInt64, -5, -1, 0, 4, 51, math.MaxInt64} {
		with(func(d *impl.Duct) { d.Joint = n })
	}
	for _, n := range []int64{math.MinInt64, -1, 100001, math.MaxInt64} {
		with(func(d *impl.Duct) { d.Loss = n })
	}
	return list
}

func TestValidDuct(t *testing.T) {
	for _, d := range validDucts() {
		if !impl.ValidDuct(d) {
			t.Errorf("%v is not valid", d)
		}
	}
	for _, d := range invalidDucts() {
		if impl.ValidDuct(d) {
			t.Errorf("%v is valid", d)
		}
	}
}

// jointsBefore counts the joints of a duct one by one: one after every joint metres, but none at the end.
func jointsBefore(length, joint int64) int64 {
	count := int64(0)
	for at := joint; at < length; at += joint {
		count++
	}
	return count
}

// wantLeft returns what is left of a flow in front of the first joint, and behind each of some.
func wantLeft(flow, loss, joints int64) []int64 {
	left := []int64{flow}
	for range joints {
		flow -= quotient(flow*loss, 1000000)
		left = append(left, flow)
	}
	return left
}

func TestJointsOf(t *testing.T) {
	for _, d := range validDucts() {
		expect(t, answerOf(impl.JointsOf(d)), answer{jointsBefore(d.Length, d.Joint), impl.OK}, "JointsOf", d)
	}
	for joint := int64(5); joint <= 50; joint++ {
		for length := int64(1); length <= 2000; length++ {
			expect(t, answerOf(impl.JointsOf(ductOf(length, joint, 7))), answer{jointsBefore(length, joint), impl.OK}, "JointsOf", length, joint)
		}
	}
	for _, c := range []struct{ length, joint, joints int64 }{
		// The document's example: there is no joint at the end.
		{100, 10, 9}, {101, 10, 10}, {99, 10, 9}, {91, 10, 9}, {90, 10, 8}, {10, 10, 0}, {11, 10, 1}, {1, 5, 0}, {5, 5, 0}, {6, 5, 1}, {2000, 5, 399}, {2000, 50, 39}, {1951, 50, 39}, {1950, 50, 38},
	} {
		expect(t, answerOf(impl.JointsOf(ductOf(c.length, c.joint, 0))), answer{c.joints, impl.OK}, "JointsOf", c)
	}
}

// ductFlows returns flows at and beyond the limits of a flow in a duct, and ordinary ones.
func ductFlows() []int64 {
	return append(around(100000), 5, 9, 10, 24, 25, 26, 49, 50, 999, 1000, 54321)
}

func isDuctFlow(n ...int64) bool { return from(0, 100000, n...) }

// TestNothingIsAddedOnTheWay covers P12 for flows behind joints.
func TestNothingIsAddedOnTheWay(t *testing.T) {
	lost := 0
	for _, d := range validDucts() {
		joints := jointsBefore(d.Length, d.Joint)
		for _, flow := range ductFlows() {
			if !isDuctFlow(flow) {
				for _, k := range []int64{-1, 0, joints, joints + 1} {
					expect(t, answerOf(impl.FlowAfter(d, flow, k)), failed(impl.ErrRange), "FlowAfter", d, flow, k)
				}
				expect(t, answerOf(impl.FlowAtEnd(d, flow)), failed(impl.ErrRange), "FlowAtEnd", d, flow)
				continue
			}
			left := wantLeft(flow, d.Loss, joints)
			before := flow
			for k, want := range left {
				got := answerOf(impl.FlowAfter(d, flow, int64(k)))
				expect(t, got, answer{want, impl.OK}, "FlowAfter", d, flow, k)
				if !from(0, before, got.value) {
					t.Errorf("FlowAfter(%v, %d, %d) = %d, but %d before it", d, flow, k, got.value, before)
				}
				if got.value < before {
					lost++
				}
				before = got.value
			}
			expect(t, answerOf(impl.FlowAtEnd(d, flow)), answer{left[joints], impl.OK}, "FlowAtEnd", d, flow)
			for _, k := range []int64{math.MinInt64, -1, joints + 1, 400, 1000000, math.MaxInt64} {
				expect(t, answerOf(impl.FlowAfter(d, flow, k)), failed(impl.ErrRange), "FlowAfter", d, flow, k)
			}
		}
	}
	if lost < 10000 {
		t.Errorf("only %d losses", lost)
	}
}

func TestFlowsBehindJointsByHand(t *testing.T) {
	for _, c := range []struct {
		d            impl.Duct
		flow, joints int64
		want         answer
	}{
		{mainDuct(), 1000, 0, answer{1000, impl.OK}},
		{mainDuct(), 1000, 1, answer{980, impl.OK}},
		{mainDuct(), 1000, 2, answer{960, impl.OK}},
		{mainDuct(), 1000, 3, answer{941, impl.OK}},
		{mainDuct(), 1000, 9, answer{834, impl.OK}},
		{mainDuct(), 1000, 10, failed(impl.ErrRange)},
		{mainDuct(), 1000, -1, failed(impl.ErrRange)},
		// A half is lost as a whole one.
		{mainDuct(), 25, 1, answer{24, impl.OK}},
		{mainDuct(), 24, 9, answer{24, impl.OK}},
		{mainDuct(), 75, 1, answer{73, impl.OK}},
		{mainDuct(), 74, 1, answer{73, impl.OK}},
		{mainDuct(), 0, 9, answer{0, impl.OK}},
		{mainDuct(), 100000, 1, answer{98000, impl.OK}},
		{mainDuct(), 100001, 0, failed(impl.ErrRange)},
		{mainDuct(), -1, 0, failed(impl.ErrRange)},
		{ductOf(10, 10, 100000), 1000, 0, answer{1000, impl.OK}},
		{ductOf(10, 10, 100000), 1000, 1, failed(impl.ErrRange)},
		{ductOf(11, 10, 100000), 1000, 1, answer{900, impl.OK}},
		{ductOf(21, 10, 100000), 1000, 2, answer{810, impl.OK}},
		{ductOf(21, 10, 100000), 5, 2, answer{4, impl.OK}},
		{ductOf(2000, 5, 0), 1000, 399, answer{1000, impl.OK}},
		{ductOf(2000, 5, 100000), 100000, 399, answer{4, impl.OK}},
		{impl.Duct{}, 1000, 0, failed(impl.ErrInvalid)},
		{impl.Duct{}, -1, -1, failed(impl.ErrInvalid)},
	} {
		expect(t, answerOf(impl.FlowAfter(c.d, c.flow, c.joints)), c.want, "FlowAfter", c)
	}
}

// leftAtEnd returns what is left of each flow at the end of a duct, with whole numbers that a table of all flows needs.
func leftAtEnd(d impl.Duct) []int64 {
	list := make([]int64, 100001)
	joints := jointsBefore(d.Length, d.Joint)
	for flow := range list {
		left := int64(flow)
		for range joints {
			left -= (2*left*d.Loss + 1000000) / 2000000
		}
		list[flow] = left
	}
	return list
}

func TestNeededFlowsInTables(t *testing.T) {
	for _, d := range []impl.Duct{mainDuct(), ductOf(2000, 5, 100000), ductOf(2000, 50, 100000), ductOf(333, 7, 31415), ductOf(51, 50, 99999), ductOf(50, 50, 100000), ductOf(2000, 5, 0), ductOf(2000, 5, 1)} {
		left := leftAtEnd(d)
		needed := int64(0)
		for need := range int64(100001) {
			for needed <= 100000 && left[needed] < need {
				needed++
			}
			// Not all needs, but those about the limits, and some of each other size.
			if need > 500 && need%97 != 0 && max(need-left[100000], left[100000]-need) > 200 {
				continue
			}
			want := answer{needed, impl.OK}
			if needed > 100000 {
				want = failed(impl.ErrNotFound)
			}
			expect(t, answerOf(impl.FlowNeeded(d, need)), want, "FlowNeeded", d, need)
		}
	}
}

// TestNeededFlowsAreTheLeast covers P12 for flows that are needed: with one less too little is left.
func TestNeededFlowsAreTheLeast(t *testing.T) {
	codes := map[int64]int{}
	for _, d := range validDucts() {
		joints := jointsBefore(d.Length, d.Joint)
		atEnd := func(flow int64) int64 { return wantLeft(flow, d.Loss, joints)[joints] }
		most := atEnd(100000)
		for _, need := range append(ductFlows(), most-1, most, most+1) {
			got := answerOf(impl.FlowNeeded(d, need))
			codes[got.code]++
			switch {
			case !isDuctFlow(need):
				expect(t, got, failed(impl.ErrRange), "FlowNeeded", d, need)
			case need > most:
				expect(t, got, failed(impl.ErrNotFound), "FlowNeeded", d, need)
			case got.code != impl.OK || !isDuctFlow(got.value) || atEnd(got.value) < need:
				t.Errorf("FlowNeeded(%v, %d) = %v", d, need, got)
			case got.value > 0 && atEnd(got.value-1) >= need:
				t.Errorf("FlowNeeded(%v, %d) = %v, but less is enough", d, need, got)
			}
			if got.code == impl.OK {
				if end := answerOf(impl.FlowAtEnd(d, got.value)); end.code != impl.OK || end.value < need {
					t.Errorf("of the %d that %v needs for %d there is %v left", got.value, d, need, end)
				}
			}
		}
	}
	if codes[impl.OK] < 2000 || codes[impl.ErrNotFound] < 200 {
		t.Errorf("the codes are %v", codes)
	}
}

func TestNeededFlowsByHand(t *testing.T) {
	for _, c := range []struct {
		d    impl.Duct
		need int64
		want answer
	}{
		{mainDuct(), 0, answer{0, impl.OK}},
		{mainDuct(), 24, answer{24, impl.OK}},
		{mainDuct(), 800, answer{959, impl.OK}},
		{mainDuct(), 83374, answer{100000, impl.OK}},
		{mainDuct(), 83375, failed(impl.ErrNotFound)},
		{mainDuct(), 100000, failed(impl.ErrNotFound)},
		{mainDuct(), 100001, failed(impl.ErrRange)},
		{mainDuct(), -1, failed(impl.ErrRange)},
		// Without a joint nothing is lost.
		{ductOf(50, 50, 100000), 100000, answer{100000, impl.OK}},
		{ductOf(51, 50, 100000), 90000, answer{100000, impl.OK}},
		{ductOf(51, 50, 100000), 90001, failed(impl.ErrNotFound)},
		{ductOf(51, 50, 100000), 4, answer{4, impl.OK}},
		// Of 5 there are 4 left, as of 4.
		{ductOf(51, 50, 100000), 5, answer{6, impl.OK}},
		{ductOf(2000, 5, 0), 100000, answer{100000, impl.OK}},
		{ductOf(2000, 5, 100000), 4, answer{4, impl.OK}},
		{ductOf(2000, 5, 100000), 5, failed(impl.ErrNotFound)},
		{impl.Duct{}, 5, failed(impl.ErrInvalid)},
		{impl.Duct{}, -1, failed(impl.ErrInvalid)},
	} {
		expect(t, answerOf(impl.FlowNeeded(c.d, c.need)), c.want, "FlowNeeded", c)
	}
}

// wantLongest tries all lengths that there may be, where left has what is left of a flow behind each joint.
func wantLongest(joint int64, left []int64, need int64) answer {
	want := failed(impl.ErrNotFound)
	for length := int64(1); length <= 2000; length++ {
		if (length%joint == 0 || length == 2000) && left[jointsBefore(length, joint)] >= need {
			want = answer{length, impl.OK}
		}
	}
	return want
}

func TestLongestDuct(t *testing.T) {
	codes, most := map[int64]int{}, 0
	random := rand.New(rand.NewSource(2000))
	for _, d := range validDucts() {
		for _, flow := range append(anyNumbers(random, 3, 0, 100000), 0, 1000, 100000) {
			left := wantLeft(flow, d.Loss, 400)
			for _, k := range []int64{0, 1, 2, random.Int63n(400), 1999/d.Joint - 1, 1999 / d.Joint, 1999/d.Joint + 1} {
				for _, need := range []int64{left[k] - 1, left[k], left[k] + 1, flow, flow + 1, 0} {
					got := answerOf(impl.LongestDuct(d, flow, need))
					if !isDuctFlow(need) {
						expect(t, got, failed(impl.ErrRange), "LongestDuct", d, flow, need)
						continue
					}
					expect(t, got, wantLongest(d.Joint, left, need), "LongestDuct", d, flow, need)
					codes[got.code]++
					if got.value == 2000 && got.value%d.Joint != 0 && need > 0 {
						most++
					}
				}
			}
		}
		for _, flow := range ductFlows() {
			for _, need := range ductFlows() {
				if !isDuctFlow(flow, need) {
					expect(t, answerOf(impl.LongestDuct(d, flow, need)), failed(impl.ErrRange), "LongestDuct", d, flow, need)
				} else if need > flow {
					expect(t, answerOf(impl.LongestDuct(d, flow, need)), failed(impl.ErrNotFound), "LongestDuct", d, flow, need)
				}
			}
		}
	}
	if codes[impl.OK] < 5000 || codes[impl.ErrNotFound] < 500 || most < 500 {
		t.Errorf("the codes are %v, and %d ducts have the greatest length that is no multiple", codes, most)
	}
}

func TestLongestDuctsByHand(t *testing.T) {
	tenth := func(joint int64) impl.Duct { return ductOf(1, joint, 100000) }
	for _, c := range []struct {
		d          impl.Duct
		flow, need int64
		want       answer
	}{
		{mainDuct(), 1000, 900, answer{60, impl.OK}},
		{mainDuct(), 1000, 0, answer{2000, impl.OK}},
		{mainDuct(), 1000, 1000, answer{10, impl.OK}},
		{mainDuct(), 1000, 1001, failed(impl.ErrNotFound)},
		{mainDuct(), 1000, 980, answer{20, impl.OK}},
		{mainDuct(), 1000, 981, answer{10, impl.OK}},
		{mainDuct(), 0, 0, answer{2000, impl.OK}},
		{mainDuct(), 0, 1, failed(impl.ErrNotFound)},
		// Of 24 nothing is lost.
		{mainDuct(), 24, 24, answer{2000, impl.OK}},
		{mainDuct(), 25, 25, answer{10, impl.OK}},
		{tenth(10), 1000, 900, answer{20, impl.OK}},
		{tenth(10), 1000, 810, answer{30, impl.OK}},
		{tenth(10), 1000, 811, answer{20, impl.OK}},
		// The greatest length has one joint more than the last multiple, if it is none itself.
		{ductOf(7, 49, 1000), 1000, 961, answer{1960, impl.OK}},
		{ductOf(7, 49, 1000), 1000, 960, answer{2000, impl.OK}},
		{ductOf(7, 49, 1000), 1000, 962, answer{1911, impl.OK}},
		{ductOf(7, 50, 1000), 1000, 961, answer{2000, impl.OK}},
		{ductOf(7, 50, 1000), 1000, 962, answer{1950, impl.OK}},
		{ductOf(7, 7, 0), 5, 5, answer{2000, impl.OK}},
		{mainDuct(), 100001, 0, failed(impl.ErrRange)},
		{mainDuct(), -1, 0, failed(impl.ErrRange)},
		{mainDuct(), 0, -1, failed(impl.ErrRange)},
		{mainDuct(), 0, 100001, failed(impl.ErrRange)},
		{mainDuct(), -1, 5, failed(impl.ErrRange)},
		{impl.Duct{}, 1, 5, failed(impl.ErrInvalid)},
		{impl.Duct{}, -1, 5, failed(impl.ErrInvalid)},
	} {
		expect(t, answerOf(impl.LongestDuct(c.d, c.flow, c.need)), c.want, "LongestDuct", c)
	}
}

// ductUse is a duct with all other arguments of the functions of ducts.
type ductUse struct {
	d                  impl.Duct
	flow, joints, need int64
}

func ductOutcomes(u ductUse) map[string]outcome {
	return map[string]outcome{
		"JointsOf":    counted(impl.JointsOf(u.d)),
		"FlowAfter":   counted(impl.FlowAfter(u.d, u.flow, u.joints)),
		"FlowAtEnd":   counted(impl.FlowAtEnd(u.d, u.flow)),
		"FlowNeeded":  counted(impl.FlowNeeded(u.d, u.need)),
		"LongestDuct": counted(impl.LongestDuct(u.d, u.flow, u.need)),
	}
}

func goodUses() []ductUse {
	return []ductUse{{d: mainDuct(), flow: 1000, joints: 9, need: 900}, {d: ductOf(5, 5, 0), flow: 100000, joints: 0, need: 100000}, {d: ductOf(2000, 7, 100000), flow: 7, joints: 285}}
}

func faultsOfUse(u ductUse) []fault[ductUse] {
	ofDuct := fault[ductUse]{argument: "d", code: impl.ErrInvalid, in: "JointsOf FlowAfter FlowAtEnd FlowNeeded LongestDuct"}
	for _, d := range invalidDucts() {
		ofDuct.changes = append(ofDuct.changes, func(u *ductUse) { u.d = d })
	}
	return []fault[ductUse]{
		ofDuct,
		faultOfNumber("flow", "FlowAfter FlowAtEnd LongestDuct", 0, 100000, func(u *ductUse, n int64) { u.flow = n }),
		faultOfNumber("joints", "FlowAfter", 0, jointsBefore(u.d.Length, u.d.Joint), func(u *ductUse, n int64) { u.joints = n }),
		faultOfNumber("need", "FlowNeeded LongestDuct", 0, 100000, func(u *ductUse, n int64) { u.need = n }),
	}
}

func TestErrorsOfDucts(t *testing.T) {
	for _, good := range goodUses() {
		expectErrors(t, good, ductOutcomes, faultsOfUse(good))
	}
}

// measure is a list of measured flows with the number of a joint.
type measure struct {
	flows []int64
	k     int64
}

// measureOutcomes returns what each function of measured flows returns.
func measureOutcomes(s measure) map[string]outcome {
	return map[string]outcome{
		"LossesOf":  listed(impl.LossesOf(s.flows)),
		"LeakAt":    paired(impl.LeakAt(s.flows)),
		"MeanLoss":  counted(impl.MeanLoss(s.flows)),
		"MendJoint": listed(impl.MendJoint(s.flows, s.k)),
	}
}

// falling returns so many flows that are not greater than those before them, among them some that are equal.
func falling(random *rand.Rand, count int, most int64) []int64 {
	flows := anyNumbers(random, count, 0, most)
	slices.Sort(flows)
	slices.Reverse(flows)
	for i := range flows {
		if i > 0 && random.Intn(4) == 0 {
			flows[i] = flows[i-1]
		}
	}
	return flows
}

// evenly returns so many flows of which the first is highest, with the same loss at each joint.
func evenly(count int, first, loss int64) []int64 {
	flows := make([]int64, count)
	for i := range flows {
		flows[i] = first - int64(i)*loss
	}
	return flows
}

// validMeasures returns measured flows at each limit, ordinary ones, and many at random.
func validMeasures() [][]int64 {
	lists := [][]int64{
		nil, {}, {0}, {7}, {100000}, {0, 0}, {5, 5}, {100000, 0}, {100000, 100000, 0}, {100000, 0, 0}, {1000, 990, 900, 895}, {10, 8, 6}, {9, 8, 6, 4, 3}, {3, 2, 2, 1},
		make([]int64, 64), slices.Repeat([]int64{100000}, 64), evenly(64, 100000, 7), append(make([]int64, 0, 64), evenly(63, 100000, 1)...), append(slices.Repeat([]int64{100000}, 63), 0),
		append([]int64{100000}, make([]int64, 63)...),
	}
	random := rand.New(rand.NewSource(63))
	for range 600 {
		lists = append(lists, falling(random, random.Intn([]int{65, 6}[random.Intn(2)]), []int64{100000, 1000, 3}[random.Intn(3)]))
	}
	return lists
}

// invalidMeasures returns for each code measured flows with this error, which the lists may have at any place, or with more errors that come later.
func invalidMeasures() map[int64][][]int64 {
	lists := map[int64][][]int64{}
	for _, n := range []int64{math.MinInt64, -1, 100001, math.MaxInt64} {
		lists[impl.ErrRange] = append(lists[impl.ErrRange], []int64{n}, []int64{n, 5}, []int64{5, n}, []int64{5, 4, n, 3}, []int64{1, 2, n}, append(make([]int64, 64), n), append([]int64{n}, evenly(64, 99, 1)...), append(evenly(63, 99, 1), n))
		lists[impl.ErrRange] = append(lists[impl.ErrRange], slices.Repeat([]int64{n}, 64), slices.Repeat([]int64{n}, 65), append(make([]int64, 1000), 5, n))
	}
	for _, count := range []int{65, 66, 1000, 100000} {
		lists[impl.ErrFull] = append(lists[impl.ErrFull], make([]int64, count), slices.Repeat([]int64{100000}, count), append(make([]int64, count-1), 1), append([]int64{5}, slices.Repeat([]int64{6}, count-1)...))
	}
	for _, first := range []int64{0, 5, 99998, 99999} {
		lists[impl.ErrOrder] = append(lists[impl.ErrOrder], []int64{first, first + 1}, []int64{100000, first, first + 1}, []int64{first, first + 1, 0}, []int64{first, 100000, 0}, []int64{first, 0, 1, 0}, append(slices.Repeat([]int64{first}, 63), first+1), append([]int64{first}, slices.Repeat([]int64{first + 1}, 63)...))
	}
	return lists
}

func TestInvalidMeasuresComeFirst(t *testing.T) {
	for code, lists := range invalidMeasures() {
		for _, flows := range lists {
			for _, k := range []int64{math.MinInt64, -1, 0, 1, 63, 64, 1000, math.MaxInt64} {
				for name, got := range measureOutcomes(measure{flows, k}) {
					expectOutcome(t, got, nothing(code), name, len(flows), flows[:min(len(flows), 70)], k)
				}
			}
		}
	}
}

func wantLosses(flows []int64) []int64 {
	var losses []int64
	for i := 1; i < len(flows); i++ {
		losses = append(losses, flows[i-1]-flows[i])
	}
	return losses
}

func wantLeak(losses []int64) outcome {
	if len(losses) == 0 || slices.Max(losses) == 0 {
		return nothing(impl.ErrNotFound)
	}
	most := slices.Max(losses)
	return listed([]int64{int64(slices.Index(losses, most)), most}, impl.OK)
}

func wantMean(losses []int64) outcome {
	if len(losses) == 0 {
		return nothing(impl.ErrState)
	}
	sum := int64(0)
	for _, n := range losses {
		sum += n
	}
	return counted(quotient(sum, int64(len(losses))), impl.OK)
}

func TestLossesOfMeasuredFlows(t *testing.T) {
	codes := map[int64]int{}
	for _, flows := range validMeasures() {
		losses := wantLosses(flows)
		got := measureOutcomes(measure{flows: flows})
		codes[got["LeakAt"].code]++
		expectOutcome(t, got["LossesOf"], listed(losses, impl.OK), "LossesOf", flows)
		expectOutcome(t, got["LeakAt"], wantLeak(losses), "LeakAt", flows)
		expectOutcome(t, got["MeanLoss"], wantMean(losses), "MeanLoss", flows)
	}
	if codes[impl.OK] < 300 || codes[impl.ErrNotFound] < 50 {
		t.Errorf("the codes of LeakAt are %v", codes)
	}
}

// TestNothingIsAddedByMending covers P12 for measured flows: mended ones do not grow on the way either.
func TestNothingIsAddedByMending(t *testing.T) {
	for _, flows := range validMeasures() {
		losses := wantLosses(flows)
		joints := int64(len(losses))
		for k := range joints {
			want := slices.Clone(flows)
			for i := range want {
				if int64(i) > k {
					want[i] += losses[k]
				}
			}
			got := listed(impl.MendJoint(flows, k))
			expectOutcome(t, got, listed(want, impl.OK), "MendJoint", flows, k)
			for i, n := range got.list {
				if i > 0 && n > got.list[i-1] || n > flows[0] || n < flows[i] {
					t.Errorf("MendJoint(%v, %d) = %v", flows, k, got)
				}
			}
			wantAfter := slices.Clone(losses)
			wantAfter[k] = 0
			expectOutcome(t, listed(impl.LossesOf(got.list)), listed(wantAfter, impl.OK), "LossesOf", got.list)
		}
		for _, k := range []int64{math.MinInt64, -1, joints, joints + 1, 64, math.MaxInt64} {
			expectOutcome(t, listed(impl.MendJoint(flows, k)), nothing(impl.ErrNotFound), "MendJoint", flows, k)
		}
	}
}

func TestMeasuredFlowsByHand(t *testing.T) {
	for _, c := range []struct {
		flows                      []int64
		k                          int64
		losses, leak, mean, mended outcome
	}{
		{[]int64{1000, 990, 900, 895}, 1, listed([]int64{10, 90, 5}, impl.OK), listed([]int64{1, 90}, impl.OK), counted(35, impl.OK), listed([]int64{1000, 990, 990, 985}, impl.OK)},
		{[]int64{1000, 990, 900, 895}, 0, listed([]int64{10, 90, 5}, impl.OK), listed([]int64{1, 90}, impl.OK), counted(35, impl.OK), listed([]int64{1000, 1000, 910, 905}, impl.OK)},
		{[]int64{1000, 990, 900, 895}, 2, listed([]int64{10, 90, 5}, impl.OK), listed([]int64{1, 90}, impl.OK), counted(35, impl.OK), listed([]int64{1000, 990, 900, 900}, impl.OK)},
		{[]int64{1000, 990, 900, 895}, 3, listed([]int64{10, 90, 5}, impl.OK), listed([]int64{1, 90}, impl.OK), counted(35, impl.OK), nothing(impl.ErrNotFound)},
		// The first one of several, and the last one.
		{[]int64{9, 7, 5, 4}, 1, listed([]int64{2, 2, 1}, impl.OK), listed([]int64{0, 2}, impl.OK), counted(2, impl.OK), listed([]int64{9, 7, 7, 6}, impl.OK)},
		{[]int64{9, 9, 8, 5}, 2, listed([]int64{0, 1, 3}, impl.OK), listed([]int64{2, 3}, impl.OK), counted(1, impl.OK), listed([]int64{9, 9, 8, 8}, impl.OK)},
		// A mean of a half is rounded away from 0.
		{[]int64{2, 1, 1}, 1, listed([]int64{1, 0}, impl.OK), listed([]int64{0, 1}, impl.OK), counted(1, impl.OK), listed([]int64{2, 1, 1}, impl.OK)},
		{[]int64{2, 2, 2, 1}, 0, listed([]int64{0, 0, 1}, impl.OK), listed([]int64{2, 1}, impl.OK), counted(0, impl.OK), listed([]int64{2, 2, 2, 1}, impl.OK)},
		{[]int64{100000, 0}, 0, listed([]int64{100000}, impl.OK), listed([]int64{0, 100000}, impl.OK), counted(100000, impl.OK), listed([]int64{100000, 100000}, impl.OK)},
		// Nothing is lost, or there is no joint.
		{[]int64{5, 5}, 0, listed([]int64{0}, impl.OK), nothing(impl.ErrNotFound), counted(0, impl.OK), listed([]int64{5, 5}, impl.OK)},
		{[]int64{0, 0, 0}, 1, listed([]int64{0, 0}, impl.OK), nothing(impl.ErrNotFound), counted(0, impl.OK), listed([]int64{0, 0, 0}, impl.OK)},
		{[]int64{5}, 0, nothing(impl.OK), nothing(impl.ErrNotFound), nothing(impl.ErrState), nothing(impl.ErrNotFound)},
		{nil, 0, nothing(impl.OK), nothing(impl.ErrNotFound), nothing(impl.ErrState), nothing(impl.ErrNotFound)},
		{[]int64{}, -1, nothing(impl.OK), nothing(impl.ErrNotFound), nothing(impl.ErrState), nothing(impl.ErrNotFound)},
	} {
		got := measureOutcomes(measure{c.flows, c.k})
		for name, want := range map[string]outcome{"LossesOf": c.losses, "LeakAt": c.leak, "MeanLoss": c.mean, "MendJoint": c.mended} {
			expectOutcome(t, got[name], want, name, c.flows, c.k)
		}
	}
}

func ductText(d impl.Duct) string { return fmt.Sprintf("%s %d,%d,%d", d.Id, d.Length, d.Joint, d.Loss) }

func TestDuctsAreReadBack(t *testing.T) {
	for _, d := range validDucts() {
		s := impl.DuctText(d)
		if s != ductText(d) {
			t.Errorf("DuctText(%v) = %q", d, s)
		}
		if got, ok := impl.ReadDuct(s); got != d || !ok {
			t.Errorf("ReadDuct(%q) = %v, %v", s, got, ok)
		}
	}
	if s := impl.DuctText(mainDuct()); s != "d1 100,10,20000" {
		t.Errorf("%v has the text %q", mainDuct(), s)
	}
	for _, d := range invalidDucts() {
		if s := impl.DuctText(d); s != "" {
			t.Errorf("DuctText(%v) = %q", d, s)
		}
		if got, ok := impl.ReadDuct(ductText(d)); ok || got != (impl.Duct{}) {
			t.Errorf("ReadDuct(%q) = %v, %v", ductText(d), got, ok)
		}
	}
}

func TestReadDuctTakesCanonicalTextsOnly(t *testing.T) {
	texts := append(oddTexts(), "d", "d ", "d -", "d 100", "d 100,10", "d 100,10,5000,0", "d 100,10,5000,", "d ,100,10,5000", "d  100,10,5000", " d 100,10,5000", "d 100,10,5000 ", "d 100,10,5000\n",
		"d\t100,10,5000", "d,100,10,5000", "100,10,5000", " 100,10,5000", "D 100,10,5000", "1d 100,10,5000", "d 0100,10,5000", "d +100,10,5000", "d -100,10,5000", "d 100,10,-0", "d 100, 10,5000", "d 100 10 5000",
		"d 100,10,x", "d 100,,5000", "d 100,10,5000 d", "d d 100,10,5000", "d 100.0,10,5000", "d 10,100,5000", "d 1000000000000000000,10,5000", "abcdefghijk 100,10,5000", "d 100,10,"+strings.Repeat("1", 1000), strings.Repeat("a", 1000)+" 100,10,5000")
	for _, s := range texts {
		if got, ok := impl.ReadDuct(s); ok || got != (impl.Duct{}) {
			t.Errorf("ReadDuct(%.30q) = %v, %v, want the zero Duct and false", s, got, ok)
		}
	}
}

// ductResults returns what all functions of a duct return.
func ductResults(u ductUse) []any {
	all := []any{impl.ValidDuct(u.d), impl.DuctText(u.d)}
	outcomes := ductOutcomes(u)
	for _, name := range []string{"JointsOf", "FlowAfter", "FlowAtEnd", "FlowNeeded", "LongestDuct"} {
		all = append(all, outcomes[name])
	}
	return all
}

// measureResults returns what all functions of measured flows return.
func measureResults(s measure) []any {
	var all []any
	outcomes := measureOutcomes(s)
	for _, name := range []string{"LossesOf", "LeakAt", "MeanLoss", "MendJoint"} {
		all = append(all, outcomes[name])
	}
	return all
}

// someMeasures returns measured flows that are valid, and some that are not, with numbers of joints.
func someMeasures() []measure {
	lists := validMeasures()
	for _, more := range invalidMeasures() {
		lists = append(lists, more...)
	}
	var list []measure
	for i, flows := range append(lists, edgeNumbers(), around()) {
		list = append(list, measure{flows, int64(i % 5)}, measure{flows, []int64{math.MinInt64, math.MaxInt64}[i%2]})
	}
	return list
}

func TestLeaksReturnTheSameForAllArguments(t *testing.T) {
	numbers := edgeNumbers()
	for i, d := range append(validDucts(), invalidDucts()...) {
		for _, n := range numbers {
			twice(t, "the functions of a duct", func() []any { return ductResults(ductUse{d, n, int64(i), 7}) })
			twice(t, "the functions of a duct", func() []any { return ductResults(ductUse{d, 1000, n, n}) })
		}
	}
	for _, a := range numbers {
		for _, b := range numbers {
			for _, d := range []impl.Duct{ductOf(a, b, 7), ductOf(a, 10, b), ductOf(100, a, b), ductOf(a, b, a)} {
				twice(t, "the functions of a duct", func() []any { return ductResults(ductUse{d, 1000, 1, 700}) })
			}
		}
	}
	for _, s := range someMeasures() {
		twice(t, "the functions of measured flows", func() []any { return measureResults(s) })
	}
	for _, s := range append(oddTexts(), "d1 100,10,20000", "d1 100,10,200000", "d1 100,0,0") {
		twice(t, "ReadDuct", func() []any { d, ok := impl.ReadDuct(s); return []any{d, ok} })
	}
	if a, b := fmt.Sprint(measureResults(measure{})), fmt.Sprint(measureResults(measure{flows: []int64{}})); a != b {
		t.Errorf("no flows have %v as nil, and else %v", a, b)
	}
}

func TestLeaksModifyNoArgument(t *testing.T) {
	for _, s := range someMeasures() {
		if !untouched(s.flows, -77, func(flows []int64) { measureResults(measure{flows, s.k}) }) {
			t.Errorf("%v or what lies behind it is changed", s.flows[:min(len(s.flows), 70)])
		}
	}
}

func TestLeaksReturnNewMemory(t *testing.T) {
	for _, s := range someMeasures() {
		before, want := slices.Clone(s.flows), measureResults(s)
		for _, o := range measureOutcomes(s) {
			spoil(o.list, 77)
		}
		if !slices.Equal(s.flows, before) || !reflect.DeepEqual(measureResults(s), want) {
			t.Errorf("results for %v share memory", before[:min(len(before), 70)])
		}
	}
}
