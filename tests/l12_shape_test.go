package tests

import (
	"math"
	"math/rand"
	"slices"
	"testing"

	"loop.example/g00657/impl"
)

// normEnd is the document's MaxNorm: the norm of as many coefficients as there can be, all of them as far from 0 as they can be.
const normEnd = lastDim * coefEnd

var (
	// noShapeNumbers are numbers of pulses that tell no shape: 0 is one as well.
	noShapeNumbers = append([]int64{0}, noPulseNumbers...)

	// noGains are the first numbers beyond on both sides, and far ones.
	noGains = newNoGains()

	// edgeGains are gains at both ends, and those that no number of pulses and no length divides.
	edgeGains = []int64{0, 1, 2, 3, 4, 5, 6, 7, 8, 9, 10, 11, 12, 13, 27, 28, 35, 36, 100, 839, 840, 841, 1 << 16, 1<<24 - 1, 1 << 24, normEnd / 2, normEnd/2 + 1, normEnd - 3, normEnd - 2, normEnd - 1, normEnd}
)

func newNoGains() []int64 {
	list := []int64{-1, -2, -normEnd, normEnd + 1, normEnd + 2, 2 * normEnd, 1 << 32, 1<<32 + 1, -1 << 32, 1 - 1<<32, impl.MaxTop}
	for _, v := range farNumbers {
		if v < 0 || v > normEnd {
			list = append(list, v)
		}
	}
	return list
}

// nearestPulses asks all pulses of k one by one how far they are from what they ought to be, the squares of it together, and takes the nearest ones.
// Of those that are as near the ones have the rest at the lower place whose first place without its sign is greater.
// Nothing is divided: k times target is held against the norm times the pulses.
func nearestPulses(target []int64, k int64) []int64 {
	norm := normBySigns(target)
	if norm == 0 {
		return withAt(filled(len(target), 0), 0, k)
	}
	var best []int64
	least := int64(math.MaxInt64)
	for _, list := range allPulses[len(target)-1][k] {
		sum := int64(0)
		for i, v := range list {
			gap := norm*v - k*target[i]
			sum += gap * gap
		}
		if sum < least || sum == least && slices.Compare(withoutSigns(list), withoutSigns(best)) > 0 {
			best, least = list, sum
		}
	}
	return best
}

// pulsesByWords does what the chapter says word by word: of the places at which most is left and which have got none yet
// the first one gets the next one.
func pulsesByWords(target []int64, k int64) []int64 {
	norm := normBySigns(target)
	pulses, rests := filled(len(target), 0), filled(len(target), 0)
	if norm == 0 {
		pulses[0] = k
		return pulses
	}
	lack := k
	for i, v := range target {
		for rests[i] = k * max(v, -v); rests[i] >= norm; rests[i] -= norm {
			pulses[i]++
			lack--
		}
	}
	for ; lack > 0; lack-- {
		at := slices.Index(rests, slices.Max(rests))
		pulses[at]++
		rests[at] = -1
	}
	for i, v := range target {
		if v < 0 {
			pulses[i] = -pulses[i]
		}
	}
	return pulses
}

func withoutSigns(list []int64) []int64 {
	out := slices.Clone(list)
	for i, v := range out {
		out[i] = max(v, -v)
	}
	return out
}

// timesOf has each number of list times v.
func timesOf(list []int64, v int64) []int64 {
	out := slices.Clone(list)
	for i := range out {
		out[i] *= v
	}
	return out
}

// searchFaultOf is the code that the document asks of a target and a k.
func searchFaultOf(target []int64, k int64) int64 {
	switch {
	case len(target) == 0 || len(target) > lastDim:
		return impl.ErrMany
	case k < 1 || k > lastPulses || !between(target, -coefEnd, coefEnd):
		return impl.ErrRange
	}
	return impl.OK
}

// shapeFaultOf is so for pulses and a gain.
func shapeFaultOf(pulses []int64, k int64, gain int64) int64 {
	if code := pulsesFaultOf(pulses, k); code != impl.OK {
		return code
	}
	if k == 0 || gain < 0 || gain > normEnd {
		return impl.ErrRange
	}
	return impl.OK
}

// shapeByWords is the shape of pulses and a gain that are right.
func shapeByWords(pulses []int64, k int64, gain int64) []int64 {
	list := slices.Clone(pulses)
	for i, v := range list {
		list[i] = nearestOf(gain*v, k)
	}
	return list
}

// fillByWords puts down one after the other, at all places in turn, so that the first ones have one more.
func fillByWords(dim int64, gain int64) []int64 {
	list := filled(int(dim), 0)
	rounds := gain / dim // as many as leave the list even; what is behind them is counted one by one
	for i := range list {
		list[i] = rounds
	}
	for i := range gain - rounds*dim {
		list[i]++
	}
	for i := 1; i < len(list); i += 2 {
		list[i] *= -1
	}
	return list
}

// wantSearch asks the pulses of a right target. They are pulses of k, none has another sign than its number,
// and at no place is the norm times the pulses as far as the norm from k times the number.
func wantSearch(t *testing.T, target []int64, k int64) []int64 {
	t.Helper()
	got := impl.SearchPulses(target, k)
	wantInts(t, got, impl.OK, pulsesByWords(target, k), "SearchPulses", target, k)
	wantCode(t, impl.PulsesFault(got.List, k), impl.OK, "the PulsesFault of the pulses of", target, k, got.List)
	norm := normBySigns(target)
	for i, v := range got.List {
		gap := norm*v - k*target[i]
		if norm > 0 && (max(gap, -gap) >= norm || v != 0 && (v < 0) != (target[i] < 0) || v != 0 && target[i] == 0) {
			t.Errorf("SearchPulses %v, %d: got %v", target, k, got.List)
		}
	}
	return got.List
}

// wantNearest asks, too, that no other pulses are nearer.
func wantNearest(t *testing.T, target []int64, k int64) {
	t.Helper()
	got := wantSearch(t, target, k)
	if want := nearestPulses(target, k); !slices.Equal(got, want) {
		t.Errorf("SearchPulses %v, %d: got %v, and nearest are %v", target, k, got, want)
	}
}

// wantShape asks the shape of right pulses: it has their signs, and its norm is the gain, but for what is rounded.
func wantShape(t *testing.T, pulses []int64, k int64, gain int64) {
	t.Helper()
	got := impl.ShapeOf(pulses, k, gain)
	wantInts(t, got, impl.OK, shapeByWords(pulses, k, gain), "ShapeOf", pulses, k, gain)
	places := int64(0)
	for i, v := range pulses {
		if v != 0 {
			places++
		}
		if got.List[i]*v < 0 || v == 0 && got.List[i] != 0 {
			t.Errorf("ShapeOf %v, %d, %d: got %v", pulses, k, gain, got.List)
		}
	}
	gap := normBySigns(got.List) - gain
	if 2*max(gap, -gap) > places || gain%k == 0 && gap != 0 {
		t.Errorf("ShapeOf %v, %d, %d: the norm of %v is off by %d", pulses, k, gain, got.List, gap)
	}
}

// wantShapeNear asks the shape that a target gets by its pulses and by a gain near its norm: no number of it is farther off than is told.
func wantShapeNear(t *testing.T, target []int64, k int64, gain int64) {
	t.Helper()
	norm := impl.NormOf(target).Value
	bound := impl.ShapeBound(norm, k, max(gain-norm, norm-gain))
	wantInt(t, bound, impl.OK, ceilOf(norm, k)+max(gain-norm, norm-gain)+1, "ShapeBound", norm, k, gain)
	shape := impl.ShapeOf(impl.SearchPulses(target, k).List, k, gain)
	if shape.Code != impl.OK || len(shape.List) != len(target) {
		t.Fatalf("ShapeOf of the pulses of %v with %d, %d: got %+v", target, k, gain, shape)
	}
	for i, v := range shape.List {
		if max(v-target[i], target[i]-v) > bound.Value {
			t.Errorf("%v with %d, %d: got %v, which is off by more than %d", target, k, gain, shape.List, bound.Value)
		}
	}
}

// wantFill asks a right fill: it has just the norm that it stands for, as evenly as can be.
func wantFill(t *testing.T, dim int64, gain int64) {
	t.Helper()
	got := impl.FillOf(dim, gain)
	wantInts(t, got, impl.OK, fillByWords(dim, gain), "FillOf", dim, gain)
	wantInt(t, impl.NormOf(got.List), impl.OK, gain, "the norm of FillOf", dim, gain)
	sizes := withoutSigns(got.List)
	if slices.Max(sizes)-slices.Min(sizes) > 1 || !slices.IsSortedFunc(sizes, func(a int64, b int64) int { return int(b - a) }) {
		t.Errorf("FillOf %d, %d: got %v", dim, gain, got.List)
	}
	for i, v := range got.List {
		if i%2 == 0 && v < 0 || i%2 == 1 && v > 0 {
			t.Errorf("FillOf %d, %d: got %v", dim, gain, got.List)
		}
	}
}

// wantFillNear asks whether any coefficients are as near to a fill as is told.
func wantFillNear(t *testing.T, target []int64, gain int64) {
	t.Helper()
	norm := impl.NormOf(target).Value
	bound := impl.FillBound(norm, gain)
	wantInt(t, bound, impl.OK, norm+gain, "FillBound", norm, gain)
	for i, v := range impl.FillOf(int64(len(target)), gain).List {
		if max(v-target[i], target[i]-v) > bound.Value {
			t.Errorf("%v and the fill of %d: the number %d is off by more than %d", target, gain, i, bound.Value)
		}
	}
}

// anyTarget has as often equal numbers, numbers that are 0 and numbers at both ends as any others.
func anyTarget(r *rand.Rand) []int64 {
	list := anyList(r, 1+r.Intn(lastDim), []int64{1, 3, 12, 1000, coefEnd}[r.Intn(5)])
	for i := range list {
		switch r.Intn(8) {
		case 0:
			list[i] = 0
		case 1:
			list[i] = list[r.Intn(len(list))]
		case 2:
			list[i] = -list[r.Intn(len(list))]
		case 3:
			list[i] = []int64{coefEnd, -coefEnd, coefEnd - 1, 1 - coefEnd}[r.Intn(4)]
		}
	}
	return list
}

// anyGain is as often near 0, or near the greatest one, as any other.
func anyGain(r *rand.Rand) int64 {
	switch r.Intn(4) {
	case 0:
		return edgeGains[r.Intn(len(edgeGains))]
	case 1:
		return normEnd - r.Int63n(1000)
	}
	return r.Int63n(1 << r.Intn(27))
}

// gainsNear are gains that differ from norm by gap at most, where they are gains.
func gainsNear(norm int64, gap int64) []int64 {
	return []int64{max(norm-gap, 0), max(norm-gap/2, 0), norm, min(norm+gap/3, normEnd), min(norm+gap, normEnd)}
}

func TestShapeConstants(t *testing.T) {
	if impl.MaxNorm != 67108864 || normEnd != impl.MaxNorm || impl.MaxCoef != coefEnd {
		t.Error(impl.MaxNorm, impl.MaxCoef)
	}
}

// TestSearchExamples: what is divided, what is left and what lacks, written out.
func TestSearchExamples(t *testing.T) {
	rows := []struct {
		target []int64
		k      int64
		pulses []int64
	}{
		{[]int64{3, -1}, 4, []int64{3, -1}}, {[]int64{3, 1}, 4, []int64{3, 1}}, {[]int64{-3, -1}, 4, []int64{-3, -1}},
		{[]int64{3, -1}, 1, []int64{1, 0}}, {[]int64{-1, 3}, 1, []int64{0, 1}}, // 3/4 and 1/4
		{[]int64{3, -1}, 2, []int64{2, 0}}, {[]int64{1, -3}, 2, []int64{1, -1}}, // 1 2/4 and 0 2/4: the lower place of two that are the same
		{[]int64{3, -1}, 3, []int64{2, -1}}, {[]int64{3, -1}, 5, []int64{4, -1}}, {[]int64{3, -1}, 8, []int64{6, -2}}, // 2 1/4 and 3/4; 3 3/4 and 1 1/4
		{[]int64{5}, 1, []int64{1}}, {[]int64{-5}, 8, []int64{-8}}, {[]int64{1}, 8, []int64{8}}, {[]int64{coefEnd}, 7, []int64{7}}, {[]int64{-coefEnd}, 7, []int64{-7}},
		{[]int64{5, 3, 2}, 7, []int64{4, 2, 1}}, // 3 5/10, 2 1/10, 1 4/10
		{[]int64{2, 3, 5}, 7, []int64{1, 2, 4}}, {[]int64{-2, 3, -5}, 7, []int64{-1, 2, -4}},
		{[]int64{6, 4, 3, 2}, 8, []int64{3, 2, 2, 1}},     // 3 3/15, 2 2/15, 1 9/15, 1 1/15
		{[]int64{7, 7, 5, 1}, 6, []int64{2, 2, 2, 0}},     // 2 2/20, 2 2/20, 1 10/20, 6/20
		{[]int64{1, -9, 9, 1}, 3, []int64{0, -2, 1, 0}},   // 3/20, 1 7/20, 1 7/20, 3/20
		{[]int64{1, 1, 1, -97}, 8, []int64{0, 0, 0, -8}},  // 8/100, 8/100, 8/100, 7 76/100
		{[]int64{20, 20, 20, 40}, 2, []int64{1, 0, 0, 1}}, // 40/100, 40/100, 40/100, 80/100
		{[]int64{20, 20, 20, 40}, 3, []int64{1, 1, 0, 1}}, // 60/100, 60/100, 60/100, 1 20/100
		{[]int64{0, 1, 0, -1}, 3, []int64{0, 2, 0, -1}}, {[]int64{0, 0, 0, -1}, 3, []int64{0, 0, 0, -3}},
		{[]int64{coefEnd, -coefEnd}, 1, []int64{1, 0}}, {[]int64{-coefEnd, coefEnd}, 1, []int64{-1, 0}}, {[]int64{coefEnd, -coefEnd}, 8, []int64{4, -4}},
		{[]int64{coefEnd, -coefEnd, coefEnd, -coefEnd}, 7, []int64{2, -2, 2, -1}}, {[]int64{-coefEnd, 1, 0, coefEnd}, 8, []int64{-4, 0, 0, 4}},
		{[]int64{coefEnd - 1, coefEnd}, 1, []int64{0, 1}}, {[]int64{coefEnd, coefEnd - 1}, 1, []int64{1, 0}}, {[]int64{1 - coefEnd, -coefEnd}, 1, []int64{0, -1}},
	}
	for _, r := range rows {
		wantInts(t, impl.SearchPulses(r.target, r.k), impl.OK, r.pulses, "SearchPulses", r.target, r.k)
		wantNearest(t, r.target, r.k)
	}
}

// TestSearchOfNothing: where all is 0 all pulses are at the first place, above 0.
func TestSearchOfNothing(t *testing.T) {
	for dim := 1; dim <= lastDim; dim++ {
		for k := int64(1); k <= lastPulses; k++ {
			wantInts(t, impl.SearchPulses(filled(dim, 0), k), impl.OK, withAt(filled(dim, 0), 0, k), "SearchPulses", dim, k)
			for _, gap := range edgeGains {
				for _, gain := range gainsNear(0, gap) {
					wantShapeNear(t, filled(dim, 0), k, gain)
				}
			}
		}
	}
}

// TestSearchWithEqualRests: at two places, at three, and at all of them, with all signs: the lower places get what lacks.
func TestSearchWithEqualRests(t *testing.T) {
	rows := []struct {
		target []int64
		k      int64
		pulses []int64
	}{
		{[]int64{1, 1}, 1, []int64{1, 0}}, {[]int64{1, 1}, 3, []int64{2, 1}}, {[]int64{1, 1}, 7, []int64{4, 3}}, {[]int64{9, 9}, 8, []int64{4, 4}},
		{[]int64{1, 1, 1}, 1, []int64{1, 0, 0}}, {[]int64{1, 1, 1}, 2, []int64{1, 1, 0}}, {[]int64{1, 1, 1}, 4, []int64{2, 1, 1}}, {[]int64{1, 1, 1}, 5, []int64{2, 2, 1}}, {[]int64{1, 1, 1}, 8, []int64{3, 3, 2}},
		{[]int64{5, 5, 5, 5}, 1, []int64{1, 0, 0, 0}}, {[]int64{5, 5, 5, 5}, 2, []int64{1, 1, 0, 0}}, {[]int64{5, 5, 5, 5}, 3, []int64{1, 1, 1, 0}},
		{[]int64{5, 5, 5, 5}, 5, []int64{2, 1, 1, 1}}, {[]int64{5, 5, 5, 5}, 6, []int64{2, 2, 1, 1}}, {[]int64{5, 5, 5, 5}, 7, []int64{2, 2, 2, 1}}, {[]int64{5, 5, 5, 5}, 8, []int64{2, 2, 2, 2}},
		{[]int64{1, 1, 0}, 1, []int64{1, 0, 0}}, {[]int64{0, 1, 1}, 1, []int64{0, 1, 0}}, {[]int64{1, 0, 1}, 5, []int64{3, 0, 2}}, {[]int64{0, 1, 0, 1}, 7, []int64{0, 4, 0, 3}}, {[]int64{0, 1, 1, 1}, 1, []int64{0, 1, 0, 0}}, {[]int64{0, 1, 1, 1}, 8, []int64{0, 3, 3, 2}},
		{[]int64{1, 3, 5, 7}, 4, []int64{0, 1, 1, 2}}, // 4/16, 12/16, 1 4/16, 1 12/16: two and two are the same, and the greater two get one each
		{[]int64{1, 5, 9, 1}, 4, []int64{1, 1, 2, 0}}, // 4/16, 1 4/16, 2 4/16, 4/16: the rests are the same at all places, and the numbers are not
		{[]int64{1, 5, 1, 9}, 4, []int64{1, 1, 0, 2}},
		{[]int64{9, 5, 1, 1}, 4, []int64{3, 1, 0, 0}},
		{[]int64{2, 2, 6, 6}, 4, []int64{1, 1, 1, 1}}, // 8/16, 8/16, 1 8/16, 1 8/16
		{[]int64{1, 1, 8, 1}, 3, []int64{1, 0, 2, 0}}, // 3/11, 3/11, 2 2/11, 3/11
		{[]int64{8, 1, 1, 1}, 3, []int64{2, 1, 0, 0}}, // 2 2/11, 3/11, 3/11, 3/11
		{[]int64{4, 4, 2, 4}, 4, []int64{1, 1, 1, 1}}, // 1 2/14, 1 2/14, 8/14, 1 2/14
		{[]int64{3, 1, 3, 1}, 6, []int64{2, 1, 2, 1}}, // 2 2/8, 6/8, 2 2/8, 6/8
		{[]int64{3, 1, 3, 1}, 1, []int64{1, 0, 0, 0}}, // 3/8, 1/8, 3/8, 1/8
		{[]int64{1, 3, 1, 3}, 1, []int64{0, 1, 0, 0}},
		{[]int64{1, 3, 3, 1}, 5, []int64{1, 2, 2, 0}}, // 5/8, 1 7/8, 1 7/8, 5/8
		{[]int64{2, 1, 1}, 2, []int64{1, 1, 0}},       // 1, 2/4, 2/4
		{[]int64{1, 2, 1}, 2, []int64{1, 1, 0}},
		{[]int64{1, 1, 2}, 2, []int64{1, 0, 1}},
		{[]int64{4, 1, 1, 2}, 4, []int64{2, 1, 0, 1}}, // 2, 4/8, 4/8, 1
		{[]int64{1, 2, 4, 1}, 4, []int64{1, 1, 2, 0}},
		{[]int64{1, 2, 1, 4}, 4, []int64{1, 1, 0, 2}},
		{[]int64{7, 9, 7, 1}, 3, []int64{1, 1, 1, 0}}, // 21/24, 1 3/24, 21/24, 3/24
		{[]int64{1, 9, 7, 7}, 2, []int64{0, 1, 1, 0}}, // 2/24, 18/24, 14/24, 14/24
		{[]int64{7, 7, 9, 1}, 2, []int64{1, 0, 1, 0}},
		{[]int64{7, 1, 7, 9}, 2, []int64{1, 0, 0, 1}},
		{[]int64{1, 1, 1, 13}, 8, []int64{1, 1, 0, 6}}, // 8/16, 8/16, 8/16, 6 8/16
		{[]int64{13, 1, 1, 1}, 8, []int64{7, 1, 0, 0}},
	}
	for _, r := range rows {
		for signs := range 1 << len(r.target) {
			target, pulses := slices.Clone(r.target), slices.Clone(r.pulses)
			for i := range target {
				if signs>>i&1 == 1 {
					target[i], pulses[i] = -target[i], -pulses[i]
				}
			}
			wantInts(t, impl.SearchPulses(target, r.k), impl.OK, pulses, "SearchPulses", target, r.k)
			wantNearest(t, target, r.k)
		}
	}
}

// TestSearchNearAll: all targets of small numbers.
func TestSearchNearAll(t *testing.T) {
	for dim, end := range []int64{1: 40, 2: 20, 3: 6, 4: 3} {
		if dim == 0 {
			continue
		}
		for target := filled(dim, -end); target != nil; target = listBehind(target, end) {
			for k := int64(1); k <= lastPulses; k++ {
				wantNearest(t, target, k)
			}
		}
	}
}

func TestSearchAny(t *testing.T) {
	r := rand.New(rand.NewSource(121))
	for range 20000 {
		target := anyTarget(r)
		for k := int64(1); k <= lastPulses; k++ {
			wantSearch(t, target, k)
		}
		wantNearest(t, target, 1+r.Int63n(lastPulses))
	}
}

// TestSearchAtTheEnds: coefficients at their ends, on both sides of 0, and next to them.
func TestSearchAtTheEnds(t *testing.T) {
	list := []int64{-coefEnd, 1 - coefEnd, -coefEnd / 2, -1, 0, 1, coefEnd/2 + 1, coefEnd - 1, coefEnd}
	for dim := 1; dim <= lastDim; dim++ {
		for places := filled(dim, -4); places != nil; places = listBehind(places, 4) {
			target := slices.Clone(places)
			for i, at := range places {
				target[i] = list[at+4]
			}
			for k := int64(1); k <= lastPulses; k++ {
				wantSearch(t, target, k)
			}
		}
	}
}

// TestSearchFindsPulses: who seeks pulses of k with as many finds them, however much they are together.
func TestSearchFindsPulses(t *testing.T) {
	forLots(func(dim int64, k int64, all [][]int64) {
		if k == 0 {
			return
		}
		for _, list := range all {
			for _, times := range []int64{1, 2, 3, 7, 1000, coefEnd / lastPulses} {
				wantInts(t, impl.SearchPulses(timesOf(list, times), k), impl.OK, list, "SearchPulses", list, times, k)
			}
			wantInts(t, impl.SearchPulses(impl.ShapeOf(list, k, k*5000).List, k), impl.OK, list, "SearchPulses of a shape", list, k)
		}
	})
}

// TestSearchHangsOnShares: by how much all numbers of a target are greater changes nothing, and their signs are those of its pulses.
func TestSearchHangsOnShares(t *testing.T) {
	r := rand.New(rand.NewSource(122))
	for range 5000 {
		target := anyList(r, 1+r.Intn(lastDim), 1000)
		if normBySigns(target) == 0 {
			continue
		}
		k := 1 + r.Int63n(lastPulses)
		want := impl.SearchPulses(target, k).List
		wantInts(t, impl.SearchPulses(timesOf(target, 1+r.Int63n(16000)), k), impl.OK, want, "SearchPulses of as many times", target, k)
		wantInts(t, impl.SearchPulses(timesOf(target, -1), k), impl.OK, timesOf(want, -1), "SearchPulses with turned signs", target, k)
		wantInts(t, impl.SearchPulses(withoutSigns(target), k), impl.OK, withoutSigns(want), "SearchPulses without signs", target, k)
	}
}

// TestSearchTooMany: how many numbers there are is asked ahead of k, and of what they are.
func TestSearchTooMany(t *testing.T) {
	lists := [][]int64{nil, {}, filled(3, 1)[:0]}
	for _, n := range []int{lastDim + 1, lastDim + 2, 8, 16, 63, 64, 65, 66, 255, 256, 257, 258, 260, 65536, 65537, 65540} {
		lists = append(lists, filled(n, 0), filled(n, 1), withAt(filled(n, 0), n-1, 1), filled(n, coefEnd), filled(n, coefEnd+1), filled(n, math.MinInt64), filled(n, math.MaxInt64))
	}
	for _, list := range lists {
		for _, k := range append([]int64{1, 5, 8, int64(len(list))}, noShapeNumbers...) {
			wantInts(t, impl.SearchPulses(list, k), impl.ErrMany, nil, "SearchPulses", len(list), k)
		}
	}
}

// TestSearchBeyond: each wrong k, and each wrong number at each place, beside right ones and beside wrong ones.
func TestSearchBeyond(t *testing.T) {
	for dim := 1; dim <= lastDim; dim++ {
		for _, list := range [][]int64{filled(dim, 0), filled(dim, 1), filled(dim, -7), filled(dim, coefEnd), filled(dim, -coefEnd)} {
			for _, k := range noShapeNumbers {
				wantInts(t, impl.SearchPulses(list, k), impl.ErrRange, nil, "SearchPulses", list, k)
			}
			for at := range dim {
				for _, far := range beyond(coefEnd) {
					for _, k := range append([]int64{1, 2, 3, 8}, noShapeNumbers...) {
						wantInts(t, impl.SearchPulses(withAt(list, at, far), k), impl.ErrRange, nil, "SearchPulses", list, at, far, k)
					}
				}
			}
		}
		for _, far := range beyond(coefEnd) {
			wantInts(t, impl.SearchPulses(filled(dim, far), 4), impl.ErrRange, nil, "SearchPulses", dim, far)
		}
	}
}

// TestShapeExamples: halves on both sides of 0, which go away from it, and gains at both ends, written out.
func TestShapeExamples(t *testing.T) {
	rows := []struct {
		pulses  []int64
		k, gain int64
		list    []int64
	}{
		{[]int64{3, -1}, 4, 100, []int64{75, -25}}, {[]int64{2, 1, 1}, 4, 10, []int64{5, 3, 3}}, {[]int64{2, -1, -1}, 4, 10, []int64{5, -3, -3}},
		{[]int64{1, 1}, 2, 1, []int64{1, 1}}, {[]int64{-1, -1}, 2, 1, []int64{-1, -1}}, {[]int64{1, -1}, 2, 3, []int64{2, -2}}, {[]int64{1, -1}, 2, 5, []int64{3, -3}},
		{[]int64{1, -1, 1, -1}, 4, 1, []int64{0, 0, 0, 0}}, {[]int64{1, -1, 1, -1}, 4, 2, []int64{1, -1, 1, -1}}, {[]int64{1, -1, 1, -1}, 4, 3, []int64{1, -1, 1, -1}}, {[]int64{1, -1, 1, -1}, 4, 5, []int64{1, -1, 1, -1}}, {[]int64{1, -1, 1, -1}, 4, 6, []int64{2, -2, 2, -2}},
		{[]int64{3, -5}, 8, 4, []int64{2, -3}}, {[]int64{5, -3}, 8, 4, []int64{3, -2}}, {[]int64{-7, 1}, 8, 4, []int64{-4, 1}}, {[]int64{7, -1}, 8, 12, []int64{11, -2}}, // 1 1/2, 2 1/2; 3 1/2, 1/2; 10 1/2, 1 1/2
		{[]int64{1, -2}, 3, 1, []int64{0, -1}}, {[]int64{-1, 2}, 3, 2, []int64{-1, 1}}, {[]int64{2, 0, -5}, 7, 3, []int64{1, 0, -2}},
		{[]int64{1}, 1, 0, []int64{0}}, {[]int64{-1}, 1, 9, []int64{-9}}, {[]int64{8}, 8, 9, []int64{9}}, {[]int64{-8}, 8, 13, []int64{-13}},
		{[]int64{3, -1}, 4, 0, []int64{0, 0}}, {[]int64{-2, 3, -2, 1}, 8, 0, []int64{0, 0, 0, 0}},
		{[]int64{8, 0, 0, 0}, 8, normEnd, []int64{normEnd, 0, 0, 0}}, {[]int64{0, 0, 0, -8}, 8, normEnd, []int64{0, 0, 0, -normEnd}}, {[]int64{2, -2, -2, 2}, 8, normEnd, []int64{coefEnd, -coefEnd, -coefEnd, coefEnd}},
		{[]int64{1, -6}, 7, normEnd, []int64{9586981, -57521883}}, {[]int64{1, -2}, 3, normEnd, []int64{22369621, -44739243}}, {[]int64{-1, 2}, 3, normEnd - 1, []int64{-22369621, 44739242}}, // 9586980 4/7, 57521883 3/7; 22369621 1/3, 44739242 2/3; 22369621, 44739242
		{[]int64{1, -7}, 8, normEnd - 4, []int64{8388608, -58720253}}, // 8388607 1/2, 58720252 1/2
	}
	for _, r := range rows {
		wantInts(t, impl.ShapeOf(r.pulses, r.k, r.gain), impl.OK, r.list, "ShapeOf", r.pulses, r.k, r.gain)
		wantShape(t, r.pulses, r.k, r.gain)
	}
}

// TestShapesOfAllPulses: with gains at the ends, those that k leaves something of, and any.
func TestShapesOfAllPulses(t *testing.T) {
	r := rand.New(rand.NewSource(123))
	forLots(func(dim int64, k int64, all [][]int64) {
		for _, pulses := range all {
			if k == 0 {
				continue
			}
			for _, gain := range []int64{0, 1, k - 1, k, k + 1, normEnd - 1, normEnd, edgeGains[r.Intn(len(edgeGains))], anyGain(r), anyGain(r)} {
				wantShape(t, pulses, k, gain)
			}
		}
	})
}

// TestShapesOfSmallGains: all of the first gains, so that all that k leaves is met, with each share of it.
func TestShapesOfSmallGains(t *testing.T) {
	for k := int64(1); k <= lastPulses; k++ {
		for _, pulses := range slices.Concat(allPulses[0][k], allPulses[1][k]) {
			for gain := range int64(50) {
				wantShape(t, pulses, k, gain)
				wantShape(t, pulses, k, normEnd-gain)
			}
		}
	}
}

// TestShapeWithoutPulses: none are pulses, too, and tell no shape; whether they are pulses is asked first.
func TestShapeWithoutPulses(t *testing.T) {
	for dim := 1; dim <= lastDim; dim++ {
		for _, gain := range append(slices.Clone(edgeGains), noGains...) {
			wantInts(t, impl.ShapeOf(filled(dim, 0), 0, gain), impl.ErrRange, nil, "ShapeOf", dim, gain)
			for at := range dim {
				wantInts(t, impl.ShapeOf(withAt(filled(dim, 0), at, 1), 0, gain), impl.ErrForm, nil, "ShapeOf", dim, at, gain)
				wantInts(t, impl.ShapeOf(withAt(filled(dim, 0), at, -1), 0, gain), impl.ErrForm, nil, "ShapeOf", dim, at, gain)
			}
		}
	}
}

// TestShapeFaults: each code with each argument that is wrong, and which one is told where several are so.
func TestShapeFaults(t *testing.T) {
	gains := append([]int64{0, 1, 100, normEnd}, noGains...)
	for _, gain := range gains {
		for _, k := range append([]int64{1, 3, 8}, noShapeNumbers...) {
			for _, pulses := range [][]int64{nil, {}, filled(2, 1)[:0], filled(lastDim+1, 0), withAt(filled(lastDim+1, 0), 0, k), filled(8, 1), filled(256, 0), filled(65540, 1)} {
				wantInts(t, impl.ShapeOf(pulses, k, gain), impl.ErrMany, nil, "ShapeOf", len(pulses), k, gain)
			}
		}
		for _, k := range noPulseNumbers {
			for _, pulses := range [][]int64{{1}, {k}, {-k, 0}, {8, 0, 0}, {1, -1, 1, -1}, {math.MinInt64, 0}} {
				wantInts(t, impl.ShapeOf(pulses, k, gain), impl.ErrRange, nil, "ShapeOf", pulses, k, gain)
			}
		}
		for k := range int64(lastPulses + 1) {
			for _, pulses := range [][]int64{{k + 1}, {-k - 1}, {k, 1}, {k, -1}, {k, 0, 0, 1}, {math.MinInt64, k}, {math.MaxInt64, math.MaxInt64, k + 2}, {impl.MaxTop + 1, k}, {k + 1<<32}, {k + 256}} {
				wantInts(t, impl.ShapeOf(pulses, k, gain), impl.ErrForm, nil, "ShapeOf", pulses, k, gain)
			}
		}
	}
	for _, gain := range noGains {
		forLots(func(dim int64, k int64, all [][]int64) {
			wantInts(t, impl.ShapeOf(all[0], k, gain), impl.ErrRange, nil, "ShapeOf", all[0], k, gain)
			wantInts(t, impl.ShapeOf(all[len(all)/2], k, gain), impl.ErrRange, nil, "ShapeOf", all[len(all)/2], k, gain)
		})
	}
}

func TestShapeBoundExamples(t *testing.T) {
	rows := []struct{ norm, k, gap, bound int64 }{
		{10, 4, 2, 6}, {0, 1, 0, 1}, {0, 8, 0, 1}, {1, 1, 0, 2}, {1, 8, 0, 2}, {8, 8, 0, 2}, {9, 8, 0, 3}, {16, 8, 0, 3}, {17, 8, 5, 9}, {7, 7, 7, 9}, {6, 7, 7, 9},
		{normEnd, 1, normEnd, 2*normEnd + 1}, {normEnd, 8, 0, normEnd/8 + 1}, {normEnd - 1, 8, 0, normEnd/8 + 1}, {normEnd, 3, 1, 22369624}, {normEnd, 7, 0, 9586982}, {0, 5, normEnd, normEnd + 1},
	}
	for _, r := range rows {
		wantInt(t, impl.ShapeBound(r.norm, r.k, r.gap), impl.OK, r.bound, "ShapeBound", r)
	}
}

func TestShapeBoundAny(t *testing.T) {
	r := rand.New(rand.NewSource(124))
	for k := int64(1); k <= lastPulses; k++ {
		for norm := range int64(100) {
			for _, gap := range edgeGains {
				wantInt(t, impl.ShapeBound(norm, k, gap), impl.OK, ceilOf(norm, k)+gap+1, "ShapeBound", norm, k, gap)
				wantInt(t, impl.ShapeBound(normEnd-norm, k, gap), impl.OK, ceilOf(normEnd-norm, k)+gap+1, "ShapeBound", normEnd-norm, k, gap)
			}
		}
		for range 1000 {
			norm, gap := anyGain(r), anyGain(r)
			wantInt(t, impl.ShapeBound(norm, k, gap), impl.OK, ceilOf(norm, k)+gap+1, "ShapeBound", norm, k, gap)
		}
	}
}

func TestShapeBoundFaults(t *testing.T) {
	for _, far := range noGains {
		for _, v := range append([]int64{0, 1, 100, normEnd}, noGains...) {
			for _, k := range append([]int64{1, 4, 8}, noShapeNumbers...) {
				wantInt(t, impl.ShapeBound(far, k, v), impl.ErrRange, 0, "ShapeBound", far, k, v)
				wantInt(t, impl.ShapeBound(v, k, far), impl.ErrRange, 0, "ShapeBound", v, k, far)
			}
		}
	}
	for _, norm := range edgeGains {
		for _, gap := range edgeGains {
			for _, k := range noShapeNumbers {
				wantInt(t, impl.ShapeBound(norm, k, gap), impl.ErrRange, 0, "ShapeBound", norm, k, gap)
			}
		}
	}
}

// TestShapesAreNear: any targets of every length with every k, by a gain that is their norm, and by gains that differ from it.
func TestShapesAreNear(t *testing.T) {
	r := rand.New(rand.NewSource(125))
	for range 6000 {
		target := anyTarget(r)
		norm := normBySigns(target)
		gap := anyGain(r)
		for k := int64(1); k <= lastPulses; k++ {
			for _, gain := range gainsNear(norm, gap) {
				wantShapeNear(t, target, k, gain)
			}
		}
	}
}

// TestShapesOfSmallTargetsAreNear: all targets of small numbers with all gains near their norm.
func TestShapesOfSmallTargetsAreNear(t *testing.T) {
	for dim, end := range []int64{1: 12, 2: 8, 3: 3, 4: 2} {
		if dim == 0 {
			continue
		}
		for target := filled(dim, -end); target != nil; target = listBehind(target, end) {
			norm := normBySigns(target)
			for k := int64(1); k <= lastPulses; k++ {
				for gain := max(norm-3, 0); gain <= norm+3; gain++ {
					wantShapeNear(t, target, k, gain)
				}
			}
		}
	}
}

// TestShapeByAnyGap: a gain that differs from the norm by less than the gap is near enough, too.
func TestShapeByAnyGap(t *testing.T) {
	r := rand.New(rand.NewSource(126))
	for range 10000 {
		target := anyTarget(r)
		norm, k, gap := normBySigns(target), 1+r.Int63n(lastPulses), anyGain(r)
		gain := min(max(norm-gap+r.Int63n(2*gap+1), 0), normEnd)
		bound := impl.ShapeBound(norm, k, gap).Value
		for i, v := range impl.ShapeOf(impl.SearchPulses(target, k).List, k, gain).List {
			if max(v-target[i], target[i]-v) > bound {
				t.Errorf("%v with %d, %d: the number %d is %d, which is off by more than %d", target, k, gain, i, v, bound)
			}
		}
	}
}

// TestFillExamples: gains that the length leaves something of, gains below it, and both ends, written out.
func TestFillExamples(t *testing.T) {
	rows := []struct {
		dim, gain int64
		list      []int64
	}{
		{4, 10, []int64{3, -3, 2, -2}}, {4, 9, []int64{3, -2, 2, -2}}, {4, 11, []int64{3, -3, 3, -2}}, {4, 12, []int64{3, -3, 3, -3}},
		{4, 0, []int64{0, 0, 0, 0}}, {4, 1, []int64{1, 0, 0, 0}}, {4, 2, []int64{1, -1, 0, 0}}, {4, 3, []int64{1, -1, 1, 0}}, {4, 4, []int64{1, -1, 1, -1}}, {4, 5, []int64{2, -1, 1, -1}},
		{3, 0, []int64{0, 0, 0}}, {3, 1, []int64{1, 0, 0}}, {3, 2, []int64{1, -1, 0}}, {3, 3, []int64{1, -1, 1}}, {3, 4, []int64{2, -1, 1}}, {3, 100, []int64{34, -33, 33}},
		{2, 0, []int64{0, 0}}, {2, 1, []int64{1, 0}}, {2, 7, []int64{4, -3}}, {1, 0, []int64{0}}, {1, 1, []int64{1}}, {1, 7, []int64{7}},
		{1, normEnd, []int64{normEnd}}, {2, normEnd, []int64{33554432, -33554432}}, {3, normEnd, []int64{22369622, -22369621, 22369621}}, {4, normEnd, []int64{16777216, -16777216, 16777216, -16777216}},
		{2, normEnd - 1, []int64{33554432, -33554431}}, {4, normEnd - 1, []int64{16777216, -16777216, 16777216, -16777215}}, {4, normEnd - 3, []int64{16777216, -16777215, 16777215, -16777215}},
	}
	for _, r := range rows {
		wantInts(t, impl.FillOf(r.dim, r.gain), impl.OK, r.list, "FillOf", r.dim, r.gain)
		wantFill(t, r.dim, r.gain)
	}
}

func TestFillsHaveTheirNorm(t *testing.T) {
	r := rand.New(rand.NewSource(127))
	for dim := int64(1); dim <= lastDim; dim++ {
		for gain := range int64(2000) {
			wantFill(t, dim, gain)
			wantFill(t, dim, normEnd-gain)
		}
		for range 5000 {
			wantFill(t, dim, anyGain(r))
		}
	}
}

func TestFillFaults(t *testing.T) {
	for _, dim := range append([]int64{1, 2, 3, 4}, noDims...) {
		for _, gain := range noGains {
			wantInts(t, impl.FillOf(dim, gain), impl.ErrRange, nil, "FillOf", dim, gain)
		}
	}
	for _, dim := range noDims {
		for _, gain := range edgeGains {
			wantInts(t, impl.FillOf(dim, gain), impl.ErrRange, nil, "FillOf", dim, gain)
		}
	}
}

func TestFillsAreNear(t *testing.T) {
	r := rand.New(rand.NewSource(128))
	for range 20000 {
		wantFillNear(t, anyTarget(r), anyGain(r))
	}
	for dim := 1; dim <= lastDim; dim++ {
		for _, gain := range edgeGains {
			for _, v := range []int64{0, 1, -1, coefEnd, -coefEnd} {
				wantFillNear(t, filled(dim, v), gain)
				wantFillNear(t, withAt(filled(dim, 0), dim-1, v), gain)
			}
		}
	}
}

// TestFillBoundIsReached: where one is all that there is, and stands against its fill.
func TestFillBoundIsReached(t *testing.T) {
	for _, gain := range edgeGains {
		for _, c := range []int64{0, -1, -7, -coefEnd} {
			fill := impl.FillOf(1, gain).List
			wantInt(t, impl.FillBound(-c, gain), impl.OK, fill[0]-c, "FillBound", -c, gain)
		}
	}
	for _, r := range [][3]int64{{3, 4, 7}, {0, 0, 0}, {0, 9, 9}, {9, 0, 9}, {normEnd, 0, normEnd}, {0, normEnd, normEnd}, {normEnd, 1, normEnd + 1}, {normEnd, normEnd, 2 * normEnd}} {
		wantInt(t, impl.FillBound(r[0], r[1]), impl.OK, r[2], "FillBound", r)
	}
}

func TestFillBoundFaults(t *testing.T) {
	for _, far := range noGains {
		for _, v := range append(slices.Clone(edgeGains), noGains...) {
			wantInt(t, impl.FillBound(far, v), impl.ErrRange, 0, "FillBound", far, v)
			wantInt(t, impl.FillBound(v, far), impl.ErrRange, 0, "FillBound", v, far)
		}
	}
}

// TestSearchAndShapeFaultsAny: right and wrong arguments side by side, against the codes in the chapter's order; all codes are met.
func TestSearchAndShapeFaultsAny(t *testing.T) {
	r := rand.New(rand.NewSource(129))
	searches, shapes := map[int64]int{}, map[int64]int{}
	for range 60000 {
		list := anyList(r, r.Intn(lastDim+3), []int64{2, 4, 8, coefEnd + 2, 1 << 40}[r.Intn(5)])
		k := r.Int63n(lastPulses+3) - 1
		gain := anyList(r, 1, 2*normEnd)[0]
		code := searchFaultOf(list, k)
		searches[code]++
		if code == impl.OK {
			wantSearch(t, list, k)
		} else {
			wantInts(t, impl.SearchPulses(list, k), code, nil, "SearchPulses", list, k)
		}
		if r.Intn(2) == 0 && len(list) > 0 && between(list, -8, 8) {
			k = normBySigns(list)
		}
		code = shapeFaultOf(list, k, gain)
		shapes[code]++
		if code == impl.OK {
			wantShape(t, list, k, gain)
		} else {
			wantInts(t, impl.ShapeOf(list, k, gain), code, nil, "ShapeOf", list, k, gain)
		}
	}
	if len(searches) != 3 || slices.Min([]int{searches[impl.OK], searches[impl.ErrMany], searches[impl.ErrRange]}) < 1000 {
		t.Error(searches)
	}
	if len(shapes) != 4 || slices.Min([]int{shapes[impl.OK], shapes[impl.ErrMany], shapes[impl.ErrRange], shapes[impl.ErrForm]}) < 1000 {
		t.Error(shapes)
	}
}

// TestShapesShareNothing: an argument, and what lies behind its end, stays, and no answer is the memory of another one; right ones and wrong ones.
func TestShapesShareNothing(t *testing.T) {
	r := rand.New(rand.NewSource(130))
	for range 4000 {
		target := anyTarget(r)
		if r.Intn(4) == 0 {
			target = anyList(r, r.Intn(lastDim+3), 1<<40)
		}
		k, gain := r.Int63n(lastPulses+3)-1, anyGain(r)
		search := func(list []int64) [][]int64 {
			return [][]int64{impl.SearchPulses(list, k).List, impl.SearchPulses(list, k).List}
		}
		shape := func(list []int64) [][]int64 {
			return [][]int64{impl.ShapeOf(list, k, gain).List, impl.FillOf(k, gain).List, impl.ShapeOf(list, k, gain).List, impl.FillOf(k, gain).List}
		}
		pulses := impl.SearchPulses(target, k).List
		wantStay(t, target, search, "SearchPulses")
		wantStay(t, target, shape, "ShapeOf of a target")
		wantStay(t, pulses, shape, "ShapeOf")
		wantOwn(t, func() []int64 { return impl.SearchPulses(target, k).List }, slices.Equal, "SearchPulses")
		wantOwn(t, func() []int64 { return impl.ShapeOf(pulses, k, gain).List }, slices.Equal, "ShapeOf")
		wantOwn(t, func() []int64 { return impl.FillOf(k, gain).List }, slices.Equal, "FillOf")
	}
}

// shapeCall is what is asked of all functions of the chapter together.
type shapeCall struct {
	target, pulses    []int64
	dim, k, gain, gap int64
}

func (c shapeCall) answers() ([2]impl.IntResult, []impl.IntsResult) {
	bounds := [2]impl.IntResult{impl.ShapeBound(c.gain, c.k, c.gap), impl.FillBound(c.gain, c.gap)}
	return bounds, []impl.IntsResult{impl.SearchPulses(c.target, c.k), impl.ShapeOf(c.pulses, c.k, c.gain), impl.FillOf(c.dim, c.gain)}
}

// shapeCalls are right ones and wrong ones.
func shapeCalls() []shapeCall {
	r := rand.New(rand.NewSource(131))
	var calls []shapeCall
	forLots(func(dim int64, k int64, all [][]int64) {
		for range 8 {
			pulses, target := all[r.Intn(len(all))], anyTarget(r)
			calls = append(calls, shapeCall{target, pulses, dim, k, anyGain(r), anyGain(r)}, shapeCall{target, pulses, dim + 1, k + 1, normEnd + 1, 0}, shapeCall{append(slices.Clone(target), 1), pulses, dim, k, anyGain(r), -1})
		}
		calls = append(calls, shapeCall{nil, nil, 0, k, 0, 0}, shapeCall{filled(int(dim), math.MinInt64), filled(int(dim), math.MinInt64), dim, k, math.MinInt64, 0}, shapeCall{filled(int(dim), 0), all[0], dim, k, normEnd, normEnd})
	})
	return calls
}

// TestShapesHangOnArguments: whatever is asked between, in whatever order, and beside it.
func TestShapesHangOnArguments(t *testing.T) {
	wantSameAnswers(t, shapeCalls(), shapeCall.answers)
}
