package tests

import (
	"math"
	"math/big"
	"math/rand"
	"slices"
	"testing"

	"loop.example/g00657/impl"
)

// lastDim and lastPulses are the document's MaxDim and MaxPulses.
const (
	lastDim    = 4
	lastPulses = 8
)

var (
	// pulseCounts are how many pulses there are, written out: a row a length from 1 on, with each k.
	pulseCounts = [lastDim][lastPulses + 1]int64{
		{1, 2, 2, 2, 2, 2, 2, 2, 2},
		{1, 4, 8, 12, 16, 20, 24, 28, 32},
		{1, 6, 18, 38, 66, 102, 146, 198, 258},
		{1, 8, 32, 88, 192, 360, 608, 952, 1408},
	}

	// allPulses has all pulses in the chapter's order, by their length less 1 and by k.
	allPulses = newAllPulses()

	// noPulseNumbers are numbers of pulses that are none: the first ones beyond, those that leave of some power of two what a right one leaves, and far ones.
	noPulseNumbers = append([]int64{-1, -2, -lastPulses, -lastPulses - 1, lastPulses + 1, lastPulses + 2, 16, 255, 256, 257, 264, 65536, 65538, 1 << 32, 1<<32 + 1, 1<<32 + 8, -1 << 32, 1 - 1<<32}, farNumbers...)

	// noDims are so for lengths.
	noDims = append([]int64{0, -1, -2, -lastDim, lastDim + 1, lastDim + 2, 8, 255, 256, 257, 260, 65537, 1 << 32, 1<<32 + 1, 1<<32 + 4, -1 << 32, 1 - 1<<32}, farNumbers...)
)

// newAllPulses counts through all lists of small numbers, the last place the fastest, and puts each down at what its numbers are together:
// nothing is counted ahead, and nothing sorted.
func newAllPulses() (all [lastDim][lastPulses + 1][][]int64) {
	for dim := 1; dim <= lastDim; dim++ {
		for list := filled(dim, -lastPulses); list != nil; list = listBehind(list, lastPulses) {
			if k := normBySigns(list); k <= lastPulses {
				all[dim-1][k] = append(all[dim-1][k], slices.Clone(list))
			}
		}
	}
	return all
}

// listBehind counts one on, with numbers from -end to end; behind the last list is none.
func listBehind(list []int64, end int64) []int64 {
	out := slices.Clone(list)
	for i := len(out) - 1; i >= 0; i-- {
		if out[i] < end {
			out[i]++
			return out
		}
		out[i] = -end
	}
	return nil
}

// normBySigns takes of each number the greater one of it and of what it is with the other sign; the numbers are small.
func normBySigns(list []int64) int64 {
	sum := int64(0)
	for _, v := range list {
		sum += max(v, -v)
	}
	return sum
}

// arePulses works with numbers that have no end, so that nothing is too far from 0 for it.
func arePulses(list []int64, k int64) bool {
	sum := new(big.Int)
	for _, v := range list {
		far := big.NewInt(v)
		sum.Add(sum, far.Abs(far))
	}
	return sum.Cmp(big.NewInt(k)) == 0
}

// pulsesFaultOf is the code that the document asks of a list and a k.
func pulsesFaultOf(list []int64, k int64) int64 {
	switch {
	case len(list) == 0 || len(list) > lastDim:
		return impl.ErrMany
	case k < 0 || k > lastPulses:
		return impl.ErrRange
	case !arePulses(list, k):
		return impl.ErrForm
	}
	return impl.OK
}

// forLots asks with each length and each k.
func forLots(ask func(dim int64, k int64, all [][]int64)) {
	for i, row := range allPulses {
		for k, all := range row {
			ask(int64(i+1), int64(k), all)
		}
	}
}

// wantPulses asks all of the pulses of which index stand ahead.
func wantPulses(t *testing.T, all [][]int64, index int, k int64) {
	t.Helper()
	list := all[index]
	wantCode(t, impl.PulsesFault(list, k), impl.OK, "PulsesFault", list, k)
	wantInt(t, impl.IndexPulses(list, k), impl.OK, int64(index), "IndexPulses", list, k)
	wantInts(t, impl.PulsesAt(int64(len(list)), k, int64(index)), impl.OK, list, "PulsesAt", len(list), k, index)
	if index+1 < len(all) {
		wantInts(t, impl.NextPulses(list, k), impl.OK, all[index+1], "NextPulses", list, k)
	} else {
		wantInts(t, impl.NextPulses(list, k), impl.ErrNone, nil, "NextPulses", list, k)
	}
}

// wantNoPulses asks all that takes pulses with what is none.
func wantNoPulses(t *testing.T, list []int64, k int64, code int64) {
	t.Helper()
	wantCode(t, impl.PulsesFault(list, k), code, "PulsesFault", list, k)
	wantInt(t, impl.IndexPulses(list, k), code, 0, "IndexPulses", list, k)
	wantInts(t, impl.NextPulses(list, k), code, nil, "NextPulses", list, k)
}

func TestPulseConstants(t *testing.T) {
	if impl.MaxDim != lastDim || impl.MaxPulses != lastPulses {
		t.Error(impl.MaxDim, impl.MaxPulses)
	}
}

func TestPulseCounts(t *testing.T) {
	forLots(func(dim int64, k int64, all [][]int64) {
		wantInt(t, impl.CountPulses(dim, k), impl.OK, pulseCounts[dim-1][k], "CountPulses", dim, k)
		if int64(len(all)) != pulseCounts[dim-1][k] {
			t.Errorf("%d, %d: %d are counted one by one", dim, k, len(all))
		}
	})
}

// TestPulseCountsComeOfFewer: of one place less with what any number leaves, and of one place less and one pulse less.
func TestPulseCountsComeOfFewer(t *testing.T) {
	count := func(dim int64, k int64) int64 { return impl.CountPulses(dim, k).Value }
	for dim := int64(2); dim <= lastDim; dim++ {
		for k := range int64(lastPulses + 1) {
			sum := count(dim-1, k)
			for v := int64(1); v <= k; v++ {
				sum += 2 * count(dim-1, k-v)
			}
			wantInt(t, impl.CountPulses(dim, k), impl.OK, sum, "CountPulses by the first number", dim, k)
			if k > 0 {
				wantInt(t, impl.CountPulses(dim, k), impl.OK, count(dim-1, k)+count(dim, k-1)+count(dim-1, k-1), "CountPulses of fewer", dim, k)
			}
		}
	}
}

func TestPulseCountFaults(t *testing.T) {
	for _, dim := range append([]int64{1, 2, 3, 4}, noDims...) {
		for _, k := range noPulseNumbers {
			wantInt(t, impl.CountPulses(dim, k), impl.ErrRange, 0, "CountPulses", dim, k)
		}
	}
	for _, dim := range noDims {
		for k := range int64(lastPulses + 1) {
			wantInt(t, impl.CountPulses(dim, k), impl.ErrRange, 0, "CountPulses", dim, k)
		}
	}
}

// TestPulseExamples: all pulses of some short lists, in their order, written out.
func TestPulseExamples(t *testing.T) {
	rows := []struct {
		k   int64
		all [][]int64
	}{
		{0, [][]int64{{0}}}, {1, [][]int64{{-1}, {1}}}, {8, [][]int64{{-8}, {8}}},
		{0, [][]int64{{0, 0}}}, {1, [][]int64{{-1, 0}, {0, -1}, {0, 1}, {1, 0}}},
		{2, [][]int64{{-2, 0}, {-1, -1}, {-1, 1}, {0, -2}, {0, 2}, {1, -1}, {1, 1}, {2, 0}}},
		{3, [][]int64{{-3, 0}, {-2, -1}, {-2, 1}, {-1, -2}, {-1, 2}, {0, -3}, {0, 3}, {1, -2}, {1, 2}, {2, -1}, {2, 1}, {3, 0}}},
		{0, [][]int64{{0, 0, 0}}}, {1, [][]int64{{-1, 0, 0}, {0, -1, 0}, {0, 0, -1}, {0, 0, 1}, {0, 1, 0}, {1, 0, 0}}},
		{2, [][]int64{
			{-2, 0, 0}, {-1, -1, 0}, {-1, 0, -1}, {-1, 0, 1}, {-1, 1, 0}, {0, -2, 0}, {0, -1, -1}, {0, -1, 1}, {0, 0, -2},
			{0, 0, 2}, {0, 1, -1}, {0, 1, 1}, {0, 2, 0}, {1, -1, 0}, {1, 0, -1}, {1, 0, 1}, {1, 1, 0}, {2, 0, 0},
		}},
		{0, [][]int64{{0, 0, 0, 0}}}, {1, [][]int64{{-1, 0, 0, 0}, {0, -1, 0, 0}, {0, 0, -1, 0}, {0, 0, 0, -1}, {0, 0, 0, 1}, {0, 0, 1, 0}, {0, 1, 0, 0}, {1, 0, 0, 0}}},
	}
	for _, r := range rows {
		dim := int64(len(r.all[0]))
		wantInt(t, impl.CountPulses(dim, r.k), impl.OK, int64(len(r.all)), "CountPulses", dim, r.k)
		for i := range r.all {
			wantPulses(t, r.all, i, r.k)
		}
	}
}

// TestPulsesOfMany: some of the longest lists, with how many stand ahead of them.
func TestPulsesOfMany(t *testing.T) {
	rows := []struct {
		list     []int64
		k, index int64
		next     []int64
	}{
		{[]int64{-8, 0, 0, 0}, 8, 0, []int64{-7, -1, 0, 0}}, {[]int64{-7, -1, 0, 0}, 8, 1, []int64{-7, 0, -1, 0}}, {[]int64{-7, 1, 0, 0}, 8, 6, []int64{-6, -2, 0, 0}},
		{[]int64{-1, 7, 0, 0}, 8, 574, []int64{0, -8, 0, 0}}, {[]int64{0, -8, 0, 0}, 8, 575, []int64{0, -7, -1, 0}}, // 575: 1, 6, 18, 38, 66, 102, 146 and 198, which begin with -8 to -1
		{[]int64{0, 0, 0, -8}, 8, 703, []int64{0, 0, 0, 8}}, {[]int64{0, 0, 0, 8}, 8, 704, []int64{0, 0, 1, -7}}, // the middle: as many stand behind the one as ahead of the other
		{[]int64{0, 8, 0, 0}, 8, 832, []int64{1, -7, 0, 0}}, {[]int64{1, -7, 0, 0}, 8, 833, []int64{1, -6, -1, 0}},
		{[]int64{7, 1, 0, 0}, 8, 1406, []int64{8, 0, 0, 0}}, {[]int64{8, 0, 0, 0}, 8, 1407, nil},
		{[]int64{2, -2, 2, -2}, 8, 1067, []int64{2, -2, 2, 2}}, // 1031 ahead by the first place, 25 by the second one, 11 by the third one
		{[]int64{0, 0, -8}, 8, 128, []int64{0, 0, 8}}, {[]int64{0, 0, 8}, 8, 129, []int64{0, 1, -7}}, {[]int64{0, -8}, 8, 15, []int64{0, 8}},
	}
	for _, r := range rows {
		wantInt(t, impl.IndexPulses(r.list, r.k), impl.OK, r.index, "IndexPulses", r)
		wantInts(t, impl.PulsesAt(int64(len(r.list)), r.k, r.index), impl.OK, r.list, "PulsesAt", r)
		code := int64(impl.OK)
		if r.next == nil {
			code = impl.ErrNone
		}
		wantInts(t, impl.NextPulses(r.list, r.k), code, r.next, "NextPulses", r)
	}
}

func TestPulsesAll(t *testing.T) {
	forLots(func(dim int64, k int64, all [][]int64) {
		for i := range all {
			wantPulses(t, all, i, k)
		}
	})
}

// TestPulsesStandInOrder: each one that is told by its number is pulses, and stands behind the one ahead of it by the first place where they differ.
func TestPulsesStandInOrder(t *testing.T) {
	forLots(func(dim int64, k int64, all [][]int64) {
		var last []int64
		for index := range impl.CountPulses(dim, k).Value {
			list := impl.PulsesAt(dim, k, index).List
			if int64(len(list)) != dim || normBySigns(list) != k {
				t.Errorf("PulsesAt %d, %d, %d: got %v", dim, k, index, list)
			}
			if index > 0 && slices.Compare(last, list) >= 0 {
				t.Errorf("of %d and %d, %v stands ahead of %v", dim, k, last, list)
			}
			last = list
		}
	})
}

// TestPulsesOneByOne goes from the first ones to those behind which none stand: all of them are met.
func TestPulsesOneByOne(t *testing.T) {
	forLots(func(dim int64, k int64, all [][]int64) {
		got := impl.PulsesAt(dim, k, 0)
		met := 0
		for got.Code == impl.OK && met < len(all) {
			wantInts(t, got, impl.OK, all[met], "NextPulses", dim, k, met)
			got, met = impl.NextPulses(got.List, k), met+1
		}
		wantInts(t, got, impl.ErrNone, nil, "NextPulses of the last ones", dim, k)
		if met != len(all) {
			t.Errorf("of %d and %d, %d were met", dim, k, met)
		}
	})
}

// TestPulsesAtBothEnds: the first ones have all pulses below 0 at the first place, and the last ones above 0; the numbers beyond tell none.
func TestPulsesAtBothEnds(t *testing.T) {
	forLots(func(dim int64, k int64, all [][]int64) {
		count := pulseCounts[dim-1][k]
		first, last := withAt(filled(int(dim), 0), 0, -k), withAt(filled(int(dim), 0), 0, k)
		wantInts(t, impl.PulsesAt(dim, k, 0), impl.OK, first, "PulsesAt", dim, k)
		wantInts(t, impl.PulsesAt(dim, k, count-1), impl.OK, last, "PulsesAt", dim, k)
		wantInt(t, impl.IndexPulses(first, k), impl.OK, 0, "IndexPulses", first, k)
		wantInt(t, impl.IndexPulses(last, k), impl.OK, count-1, "IndexPulses", last, k)
		wantInts(t, impl.NextPulses(last, k), impl.ErrNone, nil, "NextPulses", last, k)
		for _, index := range append([]int64{-1, -2, -count, count, count + 1, 2 * count, 1408, 1 << 32, 1<<32 + 1, -1 << 32, count - 1<<32, 1<<32 + count - 1}, farNumbers...) {
			if index < 0 || index >= count {
				wantInts(t, impl.PulsesAt(dim, k, index), impl.ErrRange, nil, "PulsesAt", dim, k, index)
			}
		}
	})
}

// TestPulsesWithTurnedSigns: with all signs turned, as many stand ahead as stood behind.
func TestPulsesWithTurnedSigns(t *testing.T) {
	forLots(func(dim int64, k int64, all [][]int64) {
		for i, list := range all {
			turned := slices.Clone(list)
			for at := range turned {
				turned[at] = -turned[at]
			}
			wantInt(t, impl.IndexPulses(turned, k), impl.OK, int64(len(all)-1-i), "IndexPulses", turned, k)
		}
	})
}

func TestPulsesAtFaults(t *testing.T) {
	for _, index := range append([]int64{0, 1, 7, 1407, -1, 1408}, farNumbers...) {
		for _, dim := range append([]int64{1, 2, 3, 4}, noDims...) {
			for _, k := range noPulseNumbers {
				wantInts(t, impl.PulsesAt(dim, k, index), impl.ErrRange, nil, "PulsesAt", dim, k, index)
			}
		}
		for _, dim := range noDims {
			for k := range int64(lastPulses + 1) {
				wantInts(t, impl.PulsesAt(dim, k, index), impl.ErrRange, nil, "PulsesAt", dim, k, index)
			}
		}
	}
}

// TestPulsesOfOtherNumbers: all short lists of small numbers with each k: those that are not k together, one too few or one too many as well.
func TestPulsesOfOtherNumbers(t *testing.T) {
	for dim := 1; dim <= 3; dim++ {
		for list := filled(dim, -lastPulses-1); list != nil; list = listBehind(list, lastPulses+1) {
			norm := normBySigns(list)
			for k := range int64(lastPulses + 1) {
				if norm != k {
					wantNoPulses(t, list, k, impl.ErrForm)
				}
			}
		}
	}
	for norm, all := range allPulses[lastDim-1] {
		for _, list := range all {
			for k := range lastPulses + 1 {
				if k != norm {
					wantNoPulses(t, list, int64(k), impl.ErrForm)
				}
			}
		}
	}
}

// TestPulsesOneOff: one pulse more, or one less, at each place.
func TestPulsesOneOff(t *testing.T) {
	forLots(func(dim int64, k int64, all [][]int64) {
		for _, list := range all {
			for at, v := range list {
				wantNoPulses(t, withAt(list, at, v-1), k, impl.ErrForm)
				wantNoPulses(t, withAt(list, at, v+1), k, impl.ErrForm)
			}
		}
	})
}

// TestPulsesFarOff: numbers whose sum leaves an int64, or comes back there to just k, and those that leave a right one of some power of two.
func TestPulsesFarOff(t *testing.T) {
	for k := range int64(lastPulses + 1) {
		lists := [][]int64{
			{math.MinInt64, math.MinInt64}, {math.MinInt64, k}, {math.MinInt64, math.MinInt64, k}, {k, math.MinInt64, 0, math.MinInt64},
			{math.MaxInt64, math.MaxInt64, k + 2}, {math.MaxInt64, k, 2, math.MaxInt64}, {math.MaxInt64, math.MinInt64, k + 1}, {math.MinInt64 + 1, k + 1, math.MinInt64},
			{1 << 62, 1 << 62, 1 << 62, 1 << 62}, {-1 << 62, 1 << 62, -1 << 62, 1 << 62}, {1 << 62, 1<<62 + k, 1 << 62, 1 << 62}, {1<<63 - 1, 1, math.MinInt64, k}, {math.MinInt64}, {-k, math.MinInt64},
			{impl.MaxTop, k}, {-impl.MaxTop, k}, {impl.MaxTop + 1, k}, {-impl.MaxTop - 1, k}, {k, 0, impl.MaxTop + 1}, {k, 0, 0, -impl.MaxTop - 1}, {impl.MaxTop + 1}, {impl.MaxTop + 1, impl.MaxTop + 1, impl.MaxTop + 1, impl.MaxTop + 1},
			{impl.MaxTop, -impl.MaxTop, impl.MaxTop, -impl.MaxTop}, {k + 1<<32}, {k - 1<<32}, {k, 1 << 32}, {k + 256}, {k - 256, 0}, {k + 65536, 0, 0}, {1 << 31, 1 << 31, k}, {1 << 7, 1 << 7, k}, {1 << 15, k, 1 << 15},
		}
		for _, v := range farNumbers {
			for dim := 1; dim <= lastDim; dim++ {
				for at := range dim {
					lists = append(lists, withAt(filled(dim, 0), at, v), withAt(filled(dim, k), at, v))
					if dim > 1 {
						lists = append(lists, withAt(filled(dim, v), at, k))
					}
				}
			}
		}
		for _, list := range lists {
			wantCode(t, pulsesFaultOf(list, k), impl.ErrForm, "the code that is asked of", list, k)
			wantNoPulses(t, list, k, impl.ErrForm)
		}
	}
}

// TestPulsesTooMany: no list, an empty one, and long ones: how many numbers there are is asked ahead of k, and of what they are.
func TestPulsesTooMany(t *testing.T) {
	lists := [][]int64{nil, {}, filled(3, 1)[:0]}
	for _, n := range []int{lastDim + 1, lastDim + 2, 8, 16, 63, 64, 65, 66, 255, 256, 257, 258, 260, 65536, 65537, 65540} {
		lists = append(lists, filled(n, 0), withAt(filled(n, 0), n-1, 1), withAt(filled(n, 0), 0, -8), filled(n, 1), filled(n, impl.MaxTop), filled(n, math.MinInt64))
	}
	for _, list := range lists {
		for _, k := range append([]int64{0, 1, 5, 8, int64(len(list))}, noPulseNumbers...) {
			wantNoPulses(t, list, k, impl.ErrMany)
		}
	}
}

// TestPulsesOfNoNumber: k is asked behind how many numbers there are, and ahead of whether they are k together.
func TestPulsesOfNoNumber(t *testing.T) {
	lists := [][]int64{{0}, {1}, {-1}, {9}, {-9}, {8, 1}, {2, -2}, {0, 0, 0}, {3, 3, 3}, {0, 0, 0, 0}, {8, 0, 0, 1}, {-1, -1, -1, -1}, {math.MinInt64}, {math.MaxInt64, 0, 0, 1}}
	for _, k := range noPulseNumbers {
		for _, list := range append(lists, []int64{k}, []int64{0, k}, []int64{-k}, []int64{k, 0, 0, 0}) {
			wantNoPulses(t, list, k, impl.ErrRange)
		}
	}
}

// TestPulseFaultsAny: right and wrong arguments side by side, against the codes in the chapter's order; all codes are met.
func TestPulseFaultsAny(t *testing.T) {
	r := rand.New(rand.NewSource(111))
	seen := map[int64]int{}
	for range 60000 {
		list := anyList(r, r.Intn(lastDim+3), []int64{2, 4, 8, 1 << 40}[r.Intn(4)])
		k := r.Int63n(lastPulses+3) - 1
		if r.Intn(2) == 0 && len(list) > 0 && between(list, -8, 8) {
			k = normBySigns(list)
		}
		code := pulsesFaultOf(list, k)
		seen[code]++
		if code != impl.OK {
			wantNoPulses(t, list, k, code)
			continue
		}
		all := allPulses[len(list)-1][k]
		index, isThere := slices.BinarySearchFunc(all, list, slices.Compare)
		if !isThere {
			t.Fatal(list, k)
		}
		wantPulses(t, all, index, k)
	}
	if len(seen) != 4 || seen[impl.OK] < 1000 || seen[impl.ErrMany] < 1000 || seen[impl.ErrRange] < 1000 || seen[impl.ErrForm] < 1000 {
		t.Error(seen)
	}
}

// TestPulsesShareNothing: an argument, and what lies behind its end, stays, and no answer is the memory of another one.
func TestPulsesShareNothing(t *testing.T) {
	forLots(func(dim int64, k int64, all [][]int64) {
		for i, list := range all {
			at := func() []int64 { return impl.PulsesAt(dim, k, int64(i)).List }
			next := func() []int64 { return impl.NextPulses(list, k).List }
			wantOwn(t, at, slices.Equal, "PulsesAt")
			wantOwn(t, next, slices.Equal, "NextPulses")
			wantStay(t, list, func(list []int64) [][]int64 {
				wantCode(t, impl.PulsesFault(list, k), impl.OK, "PulsesFault", list, k)
				index := impl.IndexPulses(list, k).Value
				return [][]int64{impl.NextPulses(list, k).List, impl.PulsesAt(dim, k, index).List, impl.NextPulses(list, k).List, impl.PulsesAt(dim, k, index).List}
			}, "pulses")
		}
	})
}

// TestWrongPulsesStay: what has a fault is not changed either.
func TestWrongPulsesStay(t *testing.T) {
	r := rand.New(rand.NewSource(112))
	for range 2000 {
		list := anyList(r, r.Intn(lastDim+3), []int64{2, 8, 1 << 40}[r.Intn(3)])
		k := r.Int63n(lastPulses+3) - 1
		wantStay(t, list, func(list []int64) [][]int64 {
			impl.PulsesFault(list, k)
			impl.IndexPulses(list, k)
			return [][]int64{impl.NextPulses(list, k).List}
		}, "wrong pulses")
	}
}

// pulseCall is what is asked of all functions of the chapter together.
type pulseCall struct {
	list          []int64
	dim, k, index int64
}

type pulseAnswers struct {
	fault        int64
	count, index impl.IntResult
}

func (c pulseCall) answers() (pulseAnswers, []impl.IntsResult) {
	lists := []impl.IntsResult{impl.PulsesAt(c.dim, c.k, c.index), impl.NextPulses(c.list, c.k)}
	return pulseAnswers{impl.PulsesFault(c.list, c.k), impl.CountPulses(c.dim, c.k), impl.IndexPulses(c.list, c.k)}, lists
}

// pulseCalls are right ones and wrong ones.
func pulseCalls() []pulseCall {
	r := rand.New(rand.NewSource(113))
	var calls []pulseCall
	forLots(func(dim int64, k int64, all [][]int64) {
		for range 8 {
			list := all[r.Intn(len(all))]
			calls = append(calls, pulseCall{list, dim, k, r.Int63n(int64(len(all)))}, pulseCall{list, dim, k + 1, int64(len(all))}, pulseCall{append(slices.Clone(list), 0), dim + 1, k, -1})
		}
		calls = append(calls, pulseCall{all[len(all)-1], dim, k, int64(len(all) - 1)}, pulseCall{nil, 0, k, 0}, pulseCall{filled(int(dim), math.MinInt64), dim, -1, 0})
	})
	return calls
}

// TestPulsesHangOnArguments: whatever is asked between, in whatever order, and beside it.
func TestPulsesHangOnArguments(t *testing.T) {
	wantSameAnswers(t, pulseCalls(), pulseCall.answers)
}
