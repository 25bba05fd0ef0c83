package tests

import (
	"math/rand"
	"slices"
	"sync"
	"testing"

	"loop.example/g00657/impl"
)

// lastRung and valueEnd are the document's MaxRung and MaxValue; mostTogether is how many numbers FinestRung lets in.
const (
	lastRung     = 47
	valueEnd     = int64(65535)
	mostTogether = 64
)

// ladderSteps are all steps, written out.
var ladderSteps = [lastRung + 1]int64{
	1, 2, 3, 4, 6, 8, 12, 16, 24, 32, 48, 64, 96, 128, 192, 256,
	384, 512, 768, 1024, 1536, 2048, 3072, 4096, 6144, 8192, 12288, 16384, 24576, 32768, 49152, 65536,
	98304, 131072, 196608, 262144, 393216, 524288, 786432, 1048576, 1572864, 2097152, 3145728, 4194304, 6291456, 8388608, 12582912, 16777216,
}

// noRungs are the first numbers beyond, those that leave of some power of two what a rung leaves, and far ones.
var noRungs = append([]int64{
	-1, -2, -3, -46, -47, -48, lastRung + 1, lastRung + 2, 49, 50, 63, 64, 65, 94, 95, 96, 127, 128, 255, 256, 257, 258, 303, 65536, 65539,
	1 << 32, 1<<32 + 1, 1<<32 + 2, 1<<32 + 47, -1 << 32, 1 - 1<<32, 1 << 48, 1<<48 + 5,
}, farNumbers...)

// stepByWords goes by the document's words, for each rung alone.
func stepByWords(rung int64) int64 {
	if rung == 0 {
		return 1
	}
	if rung%2 == 1 {
		return 1 << ((rung + 1) / 2)
	}
	return 3 << (rung/2 - 1)
}

// isSmall multiplies only: an index that halves round away from 0 is no more than most, where c is nearer to 0
// than most and a half of the step.
func isSmall(c int64, step int64, most int64) bool {
	return 2*max(c, -c) < (2*most+1)*step
}

// finestOf answers a right call.
func finestOf(list []int64, most int64) impl.IntResult {
	for rung, step := range ladderSteps {
		beyond := func(c int64) bool { return !isSmall(c, step, most) }
		if !slices.ContainsFunc(list, beyond) {
			return impl.IntResult{Value: int64(rung)}
		}
	}
	return impl.IntResult{Code: impl.ErrNone}
}

// wantIndex asks the index of a right coefficient by a right rung, and what is restored of it: that is as near as is told,
// and has this index again. It says whether there is something to restore.
func wantIndex(t *testing.T, c int64, rung int64) bool {
	t.Helper()
	step := ladderSteps[rung]
	q := nearestOf(c, step)
	wantInt(t, impl.Quantize(c, rung), impl.OK, q, "Quantize", c, rung)
	back := impl.Restore(q, rung)
	if q*step < -coefEnd || q*step > coefEnd {
		wantInt(t, back, impl.ErrRange, 0, "Restore", q, rung)
		return false
	}
	wantInt(t, back, impl.OK, q*step, "Restore", q, rung)
	gap := max(back.Value-c, c-back.Value)
	if 2*gap > step || gap > impl.HalfStep(rung).Value {
		t.Errorf("%d by the rung %d: %d is off by %d, which is more than half of %d", c, rung, back.Value, gap, step)
	}
	wantInt(t, impl.Quantize(back.Value, rung), impl.OK, q, "Quantize again", c, rung)
	return true
}

// wantFinest asks a right call against the model, and then by Quantize: at the rung that is told all indices are small enough,
// and at each finer one, or at all, if none is told, some are not.
func wantFinest(t *testing.T, list []int64, most int64) {
	t.Helper()
	got, want := impl.FinestRung(list, most), finestOf(list, most)
	wantInt(t, got, want.Code, want.Value, "FinestRung", list, most)
	isBeyond := func(rung int64) bool {
		return slices.ContainsFunc(list, func(c int64) bool {
			q := impl.Quantize(c, rung)
			return q.Code != impl.OK || q.Value > most || q.Value < -most
		})
	}
	finer := got.Value
	if got.Code == impl.ErrNone {
		finer = lastRung + 1
	} else if isBeyond(got.Value) {
		t.Errorf("FinestRung %v, %d: at %d not all indices are small enough", list, most, got.Value)
	}
	for rung := range finer {
		if !isBeyond(rung) {
			t.Errorf("FinestRung %v, %d: got %+v, but at %d all indices are small enough", list, most, got, rung)
		}
	}
}

// anyCoef is as often near 0 as far from it.
func anyCoef(r *rand.Rand) int64 {
	return anyList(r, 1, min(coefEnd, 1<<r.Intn(26)))[0]
}

func TestLadderConstants(t *testing.T) {
	if impl.MaxRung != lastRung || impl.MaxIndex != 30000 || impl.MaxCoef != coefEnd || impl.MaxValue != valueEnd {
		t.Error(impl.MaxRung, impl.MaxIndex, impl.MaxCoef, impl.MaxValue)
	}
}

func TestStepsOfAllRungs(t *testing.T) {
	for rung := range int64(lastRung + 1) {
		wantInt(t, impl.StepOf(rung), impl.OK, ladderSteps[rung], "StepOf", rung)
		wantInt(t, impl.StepOf(rung), impl.OK, stepByWords(rung), "StepOf by words", rung)
		wantInt(t, impl.HalfStep(rung), impl.OK, ladderSteps[rung]/2, "HalfStep", rung)
		if rung > 0 && impl.StepOf(rung).Value <= impl.StepOf(rung-1).Value {
			t.Errorf("the step of %d is not above that of %d", rung, rung-1)
		}
	}
}

func TestStepExamples(t *testing.T) {
	rows := []struct{ rung, step, half int64 }{
		{0, 1, 0}, {1, 2, 1}, {2, 3, 1}, {3, 4, 2}, {4, 6, 3}, {5, 8, 4}, {6, 12, 6},
		{30, 49152, 24576}, {31, 65536, 32768}, {45, 1 << 23, 1 << 22}, {46, 3 << 22, 3 << 21}, {47, 1 << 24, 1 << 23},
	}
	for _, r := range rows {
		wantInt(t, impl.StepOf(r.rung), impl.OK, r.step, "StepOf", r.rung)
		wantInt(t, impl.HalfStep(r.rung), impl.OK, r.half, "HalfStep", r.rung)
	}
}

// TestNoRungs: whatever else is asked with a rung that is none, right or wrong, the answer is the same.
func TestNoRungs(t *testing.T) {
	for _, rung := range noRungs {
		wantInt(t, impl.StepOf(rung), impl.ErrRange, 0, "StepOf", rung)
		wantInt(t, impl.HalfStep(rung), impl.ErrRange, 0, "HalfStep", rung)
		for _, v := range append([]int64{0, 1, -1, 7, coefEnd, -coefEnd}, beyond(coefEnd)...) {
			wantInt(t, impl.Quantize(v, rung), impl.ErrRange, 0, "Quantize", v, rung)
			wantInt(t, impl.Restore(v, rung), impl.ErrRange, 0, "Restore", v, rung)
		}
	}
}

func TestQuantizeExamples(t *testing.T) {
	rows := []struct{ c, rung, q int64 }{
		{0, 0, 0}, {7, 0, 7}, {-7, 0, -7}, {coefEnd, 0, coefEnd}, {-coefEnd, 0, -coefEnd}, // each number is told as it is
		{0, 1, 0}, {1, 1, 1}, {-1, 1, -1}, {2, 1, 1}, {3, 1, 2}, {-3, 1, -2}, {5, 1, 3}, {-5, 1, -3}, {coefEnd - 1, 1, coefEnd / 2}, {1 - coefEnd, 1, -coefEnd / 2},
		{1, 2, 0}, {-1, 2, 0}, {2, 2, 1}, {-2, 2, -1}, {4, 2, 1}, {-4, 2, -1}, {5, 2, 2}, {coefEnd, 2, 5592405}, {-coefEnd, 2, -5592405},
		{1, 3, 0}, {2, 3, 1}, {-2, 3, -1}, {5, 3, 1}, {6, 3, 2}, {-6, 3, -2}, {coefEnd - 2, 3, coefEnd / 4}, {coefEnd - 3, 3, coefEnd/4 - 1},
		{2, 4, 0}, {3, 4, 1}, {-3, 4, -1}, {-8, 4, -1}, {9, 4, 2}, {-9, 4, -2}, {coefEnd, 4, 2796203}, {-coefEnd, 4, -2796203},
		{coefEnd, 44, 3}, {-coefEnd, 44, -3}, {coefEnd, 45, 2}, {coefEnd, 46, 1}, {6291455, 46, 0}, {6291456, 46, 1}, {-6291456, 46, -1},
		{coefEnd, 47, 1}, {-coefEnd, 47, -1}, {coefEnd / 2, 47, 1}, {-coefEnd / 2, 47, -1}, {coefEnd/2 - 1, 47, 0}, {1 - coefEnd/2, 47, 0},
	}
	for _, r := range rows {
		wantInt(t, impl.Quantize(r.c, r.rung), impl.OK, r.q, "Quantize", r)
	}
}

func TestRestoreExamples(t *testing.T) {
	rows := []struct{ q, rung, c int64 }{
		{0, 0, 0}, {7, 0, 7}, {-7, 0, -7}, {coefEnd, 0, coefEnd}, {-coefEnd, 0, -coefEnd},
		{3, 1, 6}, {-3, 1, -6}, {coefEnd / 2, 1, coefEnd}, {-coefEnd / 2, 1, -coefEnd}, {3, 2, 9}, {-3, 2, -9}, {5592405, 2, coefEnd - 1}, {-5592405, 2, 1 - coefEnd},
		{coefEnd / 4, 3, coefEnd}, {2796202, 4, coefEnd - 4}, {-2796202, 4, 4 - coefEnd}, {2, 44, 12582912}, {2, 45, coefEnd}, {1, 46, 12582912}, {0, 47, 0}, {1, 47, coefEnd}, {-1, 47, -coefEnd},
	}
	for _, r := range rows {
		wantInt(t, impl.Restore(r.q, r.rung), impl.OK, r.c, "Restore", r)
	}
	wrong := []struct{ q, rung int64 }{
		{coefEnd + 1, 0}, {coefEnd/2 + 1, 1}, {5592406, 2}, {coefEnd/4 + 1, 3}, {2796203, 4}, {3, 44}, {3, 45}, {2, 46}, {2, 47}, {coefEnd, 1}, {coefEnd, 47},
	}
	for _, r := range wrong {
		wantInt(t, impl.Restore(r.q, r.rung), impl.ErrRange, 0, "Restore", r)
		wantInt(t, impl.Restore(-r.q, r.rung), impl.ErrRange, 0, "Restore below 0", r)
	}
}

// TestIndicesSmall: all coefficients near 0, at every rung.
func TestIndicesSmall(t *testing.T) {
	for rung := range int64(lastRung + 1) {
		for c := int64(-300); c <= 300; c++ {
			if !wantIndex(t, c, rung) {
				t.Errorf("%d by the rung %d cannot be restored", c, rung)
			}
		}
	}
}

// TestIndicesBetweenSteps: on a step, halfway to the next one, and beside both, as far as the last step.
func TestIndicesBetweenSteps(t *testing.T) {
	for rung, step := range ladderSteps {
		last := coefEnd / step
		for _, q := range []int64{0, 1, 2, 3, 4, 5, 100, 101, 29999, 30000, valueEnd, last / 2, last/2 + 1, last - 2, last - 1, last} {
			for _, c := range besides(q*step, q*step+step/2, q*step+(step+1)/2) {
				if c >= 0 && c <= coefEnd {
					wantIndex(t, c, int64(rung))
					wantIndex(t, -c, int64(rung))
				}
			}
		}
	}
}

// TestHalvesAreReached: of what is as far from two steps the farther one from 0 is told, and nothing less than a half of the step would do.
func TestHalvesAreReached(t *testing.T) {
	for rung, step := range ladderSteps {
		half := impl.HalfStep(int64(rung)).Value
		c, q := half, int64(0)
		if step%2 == 0 {
			q = 1
		}
		for _, sign := range []int64{1, -1} {
			wantInt(t, impl.Quantize(sign*c, int64(rung)), impl.OK, sign*q, "Quantize of a half", c, rung)
			back := impl.Restore(sign*q, int64(rung))
			if gap := max(back.Value-sign*c, sign*c-back.Value); back.Code != impl.OK || gap != half {
				t.Errorf("%d by the rung %d: %+v is off by %d, not by %d", sign*c, rung, back, gap, half)
			}
		}
	}
}

func TestIndicesAny(t *testing.T) {
	r := rand.New(rand.NewSource(91))
	restored := 0
	for rung := range int64(lastRung + 1) {
		for range 2000 {
			if wantIndex(t, anyCoef(r), rung) {
				restored++
			}
		}
	}
	if restored < 90000 {
		t.Error(restored)
	}
}

// TestCoefficientsAtBothEnds: the last ones that are let in, and the first ones beyond; at even rungs the index of the last ones may
// be rounded up to a step that is beyond itself.
func TestCoefficientsAtBothEnds(t *testing.T) {
	none := 0
	for rung := range int64(lastRung + 1) {
		for c := coefEnd - 100; c <= coefEnd; c++ {
			wantIndex(t, -c, rung)
			if !wantIndex(t, c, rung) {
				none++
			}
		}
		for _, c := range beyond(coefEnd) {
			wantInt(t, impl.Quantize(c, rung), impl.ErrRange, 0, "Quantize", c, rung)
		}
	}
	if none == 0 {
		t.Error("all indices of the last coefficients can be restored")
	}
}

// TestIndicesAtBothEnds: those whose product is just the last coefficient, or nearest to it, and the next ones beyond.
func TestIndicesAtBothEnds(t *testing.T) {
	for rung, step := range ladderSteps {
		last := coefEnd / step
		if rung%2 == 1 {
			wantInt(t, impl.Restore(last, int64(rung)), impl.OK, coefEnd, "Restore of the last one", rung)
			wantInt(t, impl.Restore(-last, int64(rung)), impl.OK, -coefEnd, "Restore of the last one", rung)
		}
		for _, q := range besides(last-1, last, last+1) {
			for _, v := range []int64{q, -q} {
				if q <= last {
					wantInt(t, impl.Restore(v, int64(rung)), impl.OK, v*step, "Restore", v, rung)
				} else {
					wantInt(t, impl.Restore(v, int64(rung)), impl.ErrRange, 0, "Restore", v, rung)
				}
			}
		}
	}
}

// TestRestoreOfFarIndices: indices that are beyond the last coefficient themselves, those among them whose product would
// overflow to 0, or to next to it.
func TestRestoreOfFarIndices(t *testing.T) {
	thirds := []int64{6148914691236517205, 6148914691236517206, -6148914691236517205, -6148914691236517206} // 3 times each would overflow to next to 0
	for rung := range int64(lastRung + 1) {
		far := append(beyond(coefEnd), thirds...)
		for digits := 25; digits < 63; digits++ {
			far = append(far, besides(int64(1)<<digits, -1<<digits)...)
		}
		for _, q := range far {
			wantInt(t, impl.Restore(q, rung), impl.ErrRange, 0, "Restore", q, rung)
		}
	}
}

func TestFinestExamples(t *testing.T) {
	rows := []struct {
		list []int64
		most int64
		rung int64
	}{
		{nil, 0, 0}, {nil, valueEnd, 0}, {[]int64{}, 0, 0}, {[]int64{}, 9, 0}, {[]int64{0}, 0, 0}, {filled(64, 0), 0, 0},
		{[]int64{100}, 10, 6}, {[]int64{-100}, 10, 6}, {[]int64{5}, 0, 6}, {[]int64{6}, 0, 7}, {[]int64{-6}, 0, 7}, // half of 12 is told by 1
		{[]int64{1}, 0, 2}, {[]int64{-1}, 0, 2}, {[]int64{1}, 1, 0}, {[]int64{2}, 1, 1}, {[]int64{3}, 1, 2}, {[]int64{4}, 1, 2}, {[]int64{5}, 1, 3},
		{[]int64{1, 2, 3, -4}, 1, 2}, {[]int64{-5, 2, 0, 0}, 1, 3}, {[]int64{1, 2, 3, -4}, 4, 0},
		{[]int64{valueEnd}, valueEnd, 0}, {[]int64{-valueEnd}, valueEnd, 0}, {[]int64{valueEnd + 1}, valueEnd, 1}, {[]int64{-valueEnd - 1}, valueEnd, 1},
		{[]int64{coefEnd}, valueEnd, 16}, {[]int64{-coefEnd}, valueEnd, 16}, // 384: one of 256 is 65536
		{[]int64{coefEnd}, 65536 / 2, 17}, {[]int64{coefEnd}, 1, 46}, {[]int64{-coefEnd}, 1, 46}, {[]int64{coefEnd}, 2, 45}, {[]int64{12582911}, 1, 45},
		{[]int64{coefEnd/2 - 1}, 0, 47}, {[]int64{1 - coefEnd/2}, 0, 47}, {[]int64{6291455}, 0, 46}, {[]int64{6291456}, 0, 47}, {append(filled(63, 0), 1-coefEnd/2), 0, 47},
	}
	for _, r := range rows {
		wantInt(t, impl.FinestRung(r.list, r.most), impl.OK, r.rung, "FinestRung", r)
		wantFinest(t, r.list, r.most)
	}
}

// TestFinestNone: a half of the last step, and what is farther, has no index that is 0; one more is enough.
func TestFinestNone(t *testing.T) {
	for _, c := range []int64{coefEnd / 2, coefEnd/2 + 1, coefEnd - 1, coefEnd} {
		for _, v := range []int64{c, -c} {
			for _, n := range []int{1, 2, 64} {
				for at := range n {
					list := withAt(filled(n, 0), at, v)
					wantInt(t, impl.FinestRung(list, 0), impl.ErrNone, 0, "FinestRung", list)
					if got := impl.FinestRung(list, 1); got.Code != impl.OK {
						t.Errorf("FinestRung %v, 1: got %+v", list, got)
					}
				}
			}
		}
	}
}

// TestFinestEachRung: the greatest coefficient that a rung tells by most, and the next one, which it does not, with either sign.
func TestFinestEachRung(t *testing.T) {
	told := map[int64]int{}
	for rung, step := range ladderSteps {
		for _, most := range []int64{0, 1, 2, 3, 10, 1000, 30000, valueEnd - 1, valueEnd} {
			last := ((2*most+1)*step - 1) / 2
			if last > coefEnd {
				continue
			}
			for _, sign := range []int64{1, -1} {
				got := impl.FinestRung([]int64{sign * last}, most)
				if got.Code == impl.OK && got.Value == int64(rung) {
					told[got.Value]++
				}
				wantFinest(t, []int64{sign * last}, most)
				wantFinest(t, []int64{sign, 0, -sign * last, sign * last / 2}, most)
				if last < coefEnd {
					wantFinest(t, []int64{sign * (last + 1)}, most)
				}
			}
		}
	}
	if len(told) != lastRung+1 {
		t.Errorf("only these rungs are the finest of some list: %v", told)
	}
}

// TestFinestPlaces: the number that needs the coarsest rung may stand anywhere.
func TestFinestPlaces(t *testing.T) {
	for _, n := range []int{1, 2, 3, 16, 63, 64} {
		for at := range n {
			for _, c := range []int64{1, -7, 1000, -coefEnd / 3, coefEnd} {
				wantFinest(t, withAt(filled(n, 0), at, c), 3)
				wantFinest(t, withAt(filled(n, -c/2), at, c), 17)
			}
		}
	}
}

func TestFinestAny(t *testing.T) {
	r := rand.New(rand.NewSource(92))
	for range 1500 {
		list := make([]int64, r.Intn(10))
		if r.Intn(20) == 0 {
			list = make([]int64, mostTogether)
		}
		for i := range list {
			list[i] = anyCoef(r)
		}
		for _, most := range []int64{0, 1, r.Int63n(10), r.Int63n(valueEnd + 1), valueEnd} {
			wantFinest(t, list, most)
		}
	}
}

// finestFaultOf is the code that the document asks of a call.
func finestFaultOf(list []int64, most int64) int64 {
	if len(list) > mostTogether {
		return impl.ErrMany
	}
	if !between(list, -coefEnd, coefEnd) || most < 0 || most > valueEnd {
		return impl.ErrRange
	}
	return finestOf(list, most).Code
}

// TestFinestFaults: too many numbers ahead of all that any of them is, and of what most is; both of these ahead of a rung that is sought.
func TestFinestFaults(t *testing.T) {
	seen := map[int64]int{}
	for _, n := range []int{0, 1, 2, 8, 63, 64, 65, 66, 128, 1000, 70000} {
		for _, other := range []int64{0, 1, -coefEnd, coefEnd} {
			lists := [][]int64{filled(n, other)}
			for _, v := range append(beyond(coefEnd), coefEnd, coefEnd/2, -coefEnd/2) {
				if n > 0 {
					lists = append(lists, withAt(lists[0], 0, v), withAt(lists[0], n/2, v), withAt(lists[0], n-1, v))
				}
			}
			for _, list := range lists {
				for _, most := range append([]int64{0, 1, 100, valueEnd - 1, valueEnd, -1, -2, -valueEnd, valueEnd + 1, valueEnd + 2, coefEnd}, farNumbers...) {
					want := impl.IntResult{Code: finestFaultOf(list, most)}
					if want.Code == impl.OK {
						want = finestOf(list, most)
					}
					seen[want.Code]++
					if got := impl.FinestRung(list, most); got != want {
						t.Errorf("FinestRung of %d numbers, %d at first, %d: got %+v, want %+v", n, list[:min(n, 2)], most, got, want)
					}
				}
			}
		}
	}
	if len(seen) != 4 || seen[impl.OK] == 0 || seen[impl.ErrMany] == 0 || seen[impl.ErrRange] == 0 || seen[impl.ErrNone] == 0 {
		t.Error(seen)
	}
}

// TestFinestRange: each wrong number at each place, beside numbers that no rung makes small enough as well.
func TestFinestRange(t *testing.T) {
	for _, n := range []int{1, 3, 64} {
		for _, other := range []int64{0, coefEnd} {
			for at := range n {
				for _, v := range beyond(coefEnd) {
					wantInt(t, impl.FinestRung(withAt(filled(n, other), at, v), 0), impl.ErrRange, 0, "FinestRung", n, other, at, v)
				}
			}
		}
	}
	for _, list := range [][]int64{nil, {}, {0}, {coefEnd}, {coefEnd + 1}, filled(64, 1)} {
		for _, most := range append([]int64{-1, -2, -valueEnd, valueEnd + 1, valueEnd + 2, 1 << 16, 1<<32 + 5}, farNumbers...) {
			wantInt(t, impl.FinestRung(list, most), impl.ErrRange, 0, "FinestRung", list, most)
		}
	}
	for _, most := range []int64{0, valueEnd, -1, valueEnd + 1} {
		wantInt(t, impl.FinestRung(filled(65, 0), most), impl.ErrMany, 0, "FinestRung of 65 numbers", most)
		wantInt(t, impl.FinestRung(filled(65, coefEnd), most), impl.ErrMany, 0, "FinestRung of 65 numbers", most)
		wantInt(t, impl.FinestRung(filled(65, coefEnd+1), most), impl.ErrMany, 0, "FinestRung of 65 numbers", most)
	}
}

// ladderCall is what is asked of all functions of the chapter together.
type ladderCall struct {
	v, rung, most int64
	list          []int64
}

func (c ladderCall) answers() [5]impl.IntResult {
	return [5]impl.IntResult{impl.StepOf(c.rung), impl.HalfStep(c.rung), impl.Quantize(c.v, c.rung), impl.Restore(c.v, c.rung), impl.FinestRung(c.list, c.most)}
}

// ladderCalls are right ones and wrong ones.
func ladderCalls() []ladderCall {
	r := rand.New(rand.NewSource(93))
	lists := [][]int64{nil, {}, {0}, {1, -2, 3, -4}, anyList(r, 8, 1000), anyList(r, 16, coefEnd), anyList(r, 64, coefEnd), {coefEnd}, {5, coefEnd + 1}, filled(64, -coefEnd), filled(65, 1)}
	var calls []ladderCall
	for rung := int64(-2); rung <= lastRung+2; rung++ {
		for _, v := range []int64{0, 1, -7, 1000, coefEnd, -coefEnd, coefEnd + 1, farNumbers[0], anyCoef(r)} {
			for _, most := range []int64{-1, 0, 20, valueEnd} {
				calls = append(calls, ladderCall{v, rung, most, lists[r.Intn(len(lists))]})
			}
		}
	}
	return calls
}

// TestLadderChangesNothing: lists stay as they were, right and wrong ones, and so does what lies behind them.
func TestLadderChangesNothing(t *testing.T) {
	for _, c := range ladderCalls() {
		inside, whole := guarded(c.list)
		before := slices.Clone(whole)
		impl.FinestRung(inside, c.most)
		if !slices.Equal(whole, before) {
			t.Errorf("%v became %v", before, whole)
		}
	}
	for _, most := range []int64{-1, 0, 1, valueEnd, valueEnd + 1} {
		if got, want := impl.FinestRung([]int64{}, most), impl.FinestRung(nil, most); got != want {
			t.Errorf("FinestRung of an empty list, %d: got %+v, of nil %+v", most, got, want)
		}
	}
}

// TestLadderHangsOnArguments: the same arguments have the same answers, whatever is asked between, in whatever order, and beside it.
func TestLadderHangsOnArguments(t *testing.T) {
	calls := ladderCalls()
	var first [][5]impl.IntResult
	for _, c := range calls {
		first = append(first, c.answers())
	}
	var group sync.WaitGroup
	for seed := range int64(4) {
		group.Go(func() {
			for _, i := range rand.New(rand.NewSource(seed)).Perm(len(calls)) {
				if got := calls[i].answers(); got != first[i] {
					t.Errorf("%v: first %v, then %v", calls[i], first[i], got)
				}
			}
		})
	}
	group.Wait()
}
