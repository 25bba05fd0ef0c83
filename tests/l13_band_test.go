package tests

import (
	"math/rand"
	"slices"
	"strings"
	"testing"

	"loop.example/g00657/impl"
)

// lastMask and lastNumber are the document's MaxMask and MaxNumber.
const (
	lastMask   = 3
	lastNumber = 9999
)

var (
	// belongs names, place by place, what a coefficient belongs to: - is low, 0 and 1 are in the band of this number.
	belongs = map[int]string{4: "--00", 8: "----0011", 16: "--------00001111"}

	// sizeBands are the bands of each size, written out.
	sizeBands = map[int][]impl.Band{4: {{From: 2, Dim: 2}}, 8: {{From: 4, Dim: 2}, {From: 6, Dim: 2}}, 16: {{From: 8, Dim: 4}, {From: 12, Dim: 4}}}

	// maskTimes are how many times the norm of the others is asked for at each mask but the last one.
	maskTimes = [lastMask]int64{4, 16, 64}

	// noMasks are the first numbers beyond, those that leave of some power of two what a mask leaves, and far ones.
	noMasks = append([]int64{-1, -2, -3, -4, lastMask + 1, lastMask + 2, 7, 8, 255, 256, 257, 65536, 65539, 1 << 32, 1<<32 + 1, 1<<32 + 3, -1 << 32, 3 - 1<<32}, farNumbers...)

	// noNumbers are so for the numbers of blocks.
	noNumbers = append([]int64{-1, -2, -3, -lastNumber, lastNumber + 1, lastNumber + 2, 16384, 65535, 65536, 65537, 1 << 32, 1<<32 + 1, 1<<32 + lastNumber, -1 << 32, 1 - 1<<32}, farNumbers...)
)

// normsAt counts, place by place, the norm of the low coefficients and those of the bands.
func normsAt(coefs []int64) (low int64, bands []int64) {
	names := belongs[len(coefs)]
	bands = filled(len(sizeBands[len(coefs)]), 0)
	for i, v := range coefs {
		if names[i] == '-' {
			low += max(v, -v)
		} else {
			bands[names[i]-'0'] += max(v, -v)
		}
	}
	return low, bands
}

// maskByShares divides where the chapter multiplies: high is at least as great as a share of low that is rounded up.
func maskByShares(low int64, high int64) int64 {
	for mask, times := range maskTimes {
		if high >= ceilOf(low, times) {
			return int64(mask)
		}
	}
	return lastMask
}

// bandFaultOf is the code that the document asks of a size and coefficients.
func bandFaultOf(size int64, coefs []int64) int64 {
	switch {
	case size != 4 && size != 8 && size != 16:
		return impl.ErrRange
	case int64(len(coefs)) != size:
		return impl.ErrMany
	case !between(coefs, -coefEnd, coefEnd):
		return impl.ErrRange
	}
	return impl.OK
}

// dealt has n coefficients of any signs whose norm is sum, which is small enough for them.
func dealt(r *rand.Rand, n int, sum int64) []int64 {
	list := filled(n, 0)
	for done, at := range r.Perm(n) {
		least := max(0, sum-int64(n-1-done)*coefEnd)
		v := least + r.Int63n(min(sum, coefEnd)-least+1)
		sum -= v
		list[at] = v * (2*r.Int63n(2) - 1)
	}
	return list
}

// evenly is so with numbers that differ by 1 at most, the greater ones ahead.
func evenly(n int, sum int64) []int64 {
	list := filled(n, sum/int64(n))
	for i := range sum % int64(n) {
		list[i]++
	}
	return list
}

// wantNorms asks all of right coefficients; the norms of the low ones and of the bands are those of all of them together.
func wantNorms(t *testing.T, coefs []int64) {
	t.Helper()
	low, bands := normsAt(coefs)
	high := normBySigns(bands)
	wantInts(t, impl.BandNorms(int64(len(coefs)), coefs), impl.OK, bands, "BandNorms", coefs)
	wantInt(t, impl.MaskOf(int64(len(coefs)), coefs), impl.OK, maskByShares(low, high), "MaskOf", coefs)
	wantInt(t, impl.NormOf(coefs), impl.OK, low+high, "the norm of", coefs)
}

// wantMask asks the mask of a block whose low coefficients have the norm low, and all others the norm high, in many ways to deal them out.
func wantMask(t *testing.T, r *rand.Rand, n int, low int64, high int64, mask int64) {
	t.Helper()
	half := n / 2
	lows, highs := [][]int64{evenly(half, low)}, [][]int64{evenly(half, high)}
	for at := range half {
		if low <= coefEnd {
			lows = append(lows, withAt(filled(half, 0), at, -low))
		}
		if high <= coefEnd {
			highs = append(highs, withAt(filled(half, 0), at, high))
		}
	}
	lows, highs = append(lows, dealt(r, half, low), dealt(r, half, low)), append(highs, dealt(r, half, high), dealt(r, half, high))
	for _, a := range lows {
		for _, b := range highs {
			coefs := slices.Concat(a, b)
			wantInt(t, impl.MaskOf(int64(n), coefs), impl.OK, mask, "MaskOf", low, high, coefs)
			wantNorms(t, coefs)
		}
	}
}

// wantNoBands asks BandNorms and MaskOf for one code.
func wantNoBands(t *testing.T, size int64, coefs []int64, code int64) {
	t.Helper()
	wantInts(t, impl.BandNorms(size, coefs), code, nil, "BandNorms", size, coefs)
	wantInt(t, impl.MaskOf(size, coefs), code, 0, "MaskOf", size, coefs)
	wantCode(t, bandFaultOf(size, coefs), code, "the code of", size, coefs)
}

func TestBandConstants(t *testing.T) {
	if impl.MaxMask != lastMask || impl.MaxNumber != lastNumber {
		t.Error(impl.MaxMask, impl.MaxNumber)
	}
}

func TestBandExamples(t *testing.T) {
	for n, low := range map[int]int64{4: 2, 8: 4, 16: 8} {
		wantInt(t, impl.LowCount(int64(n)), impl.OK, low, "LowCount", n)
		if got := impl.BandsOf(int64(n)); got.Code != impl.OK || !slices.Equal(got.List, sizeBands[n]) {
			t.Errorf("BandsOf %d: got %+v, want %v", n, got, sizeBands[n])
		}
	}
}

// TestBandsAreTheUpperHalf: each place is low, or in just one band; the bands stand behind one another, and none is too long for pulses.
func TestBandsAreTheUpperHalf(t *testing.T) {
	for _, n := range blockLengths {
		low := impl.LowCount(int64(n)).Value
		names := strings.Repeat("-", int(low))
		bands := impl.BandsOf(int64(n)).List
		for i, b := range bands {
			if b.From != int64(len(names)) || b.Dim < 2 || b.Dim > lastDim {
				t.Errorf("%d: the band %d is %+v", n, i, b)
			}
			names += strings.Repeat(string(rune('0'+i)), int(b.Dim))
			wantInt(t, impl.OwnerOf(0, int64(i)), impl.OK, int64(i), "OwnerOf", i)
		}
		if names != belongs[n] || 2*low != int64(n) {
			t.Errorf("%d: %d are low, and the bands are %v: %s", n, low, bands, names)
		}
	}
	if one, two := impl.BandsOf(4).List, impl.BandsOf(8).List; len(one) != 1 || len(two) != 2 || len(impl.BandsOf(16).List) != 2 {
		t.Error(one, two)
	}
}

// TestBandSizes: a size that is none is told ahead of all that the coefficients are.
func TestBandSizes(t *testing.T) {
	for _, size := range noSizes {
		wantInt(t, impl.LowCount(size), impl.ErrRange, 0, "LowCount", size)
		if got := impl.BandsOf(size); got.Code != impl.ErrRange || len(got.List) != 0 {
			t.Errorf("BandsOf %d: got %+v", size, got)
		}
		lists := [][]int64{nil, {}, {1}, filled(4, 0), filled(8, 1), filled(16, -1), filled(17, 0), {coefEnd + 1, 0, 0, 0}, filled(70, farNumbers[0])}
		if size >= 0 && size <= 64 {
			lists = append(lists, filled(int(size), 0), filled(int(size), coefEnd+1))
		}
		for _, list := range lists {
			wantNoBands(t, size, list, impl.ErrRange)
		}
	}
}

// TestNormExamples are counted by hand.
func TestNormExamples(t *testing.T) {
	rows := []struct {
		coefs, norms []int64
		mask         int64
	}{
		{[]int64{9, 9, 3, -2}, []int64{5}, 0}, // 20 to 18
		{[]int64{-9, 12, 3, -2}, []int64{5}, 1},
		{[]int64{100, -100, 0, 4}, []int64{4}, 2},
		{[]int64{100, -100, 0, -3}, []int64{3}, 3}, // 192 to 200
		{[]int64{1, 2, 3, 4, 5, 6, 7, 8}, []int64{11, 15}, 0},
		{[]int64{1, 2, 3, 94, -1, 0, 0, -1}, []int64{1, 1}, 2},        // 32 to 100, and 128
		{[]int64{50, 50, -50, -50, 0, 0, 20, -20}, []int64{0, 40}, 1}, // 160 to 200, and 640
		{[]int64{0, 0, 0, -90, 20, -3, 0, 0}, []int64{23, 0}, 0},      // 92 to 90
		{[]int64{1, 1, 1, 1, 1, 1, 1, 1, 1, -2, 3, -4, 5, -6, 7, -8}, []int64{10, 26}, 0},
		{[]int64{8, 8, 8, 8, -8, -8, -8, -8, 1, 0, 0, 0, 0, 0, 0, 0}, []int64{1, 0}, 2}, // 16 to 64, and 64
		{[]int64{8, 8, 8, 8, -8, -8, -8, -9, 1, 0, 0, 0, 0, 0, 0, 0}, []int64{1, 0}, 3},
		{[]int64{0, 0, 0, 0, 0, 0, 0, 0, 0, 0, 0, 1, 2, 0, 0, 0}, []int64{1, 2}, 0},
		{[]int64{0, 0, 0, 0, 0, 0, 0, 1000, 0, 0, 0, -9, 0, 0, 0, 90}, []int64{9, 90}, 1}, // 396 and 1584 to 1000
	}
	for _, r := range rows {
		wantInts(t, impl.BandNorms(int64(len(r.coefs)), r.coefs), impl.OK, r.norms, "BandNorms", r.coefs)
		wantInt(t, impl.MaskOf(int64(len(r.coefs)), r.coefs), impl.OK, r.mask, "MaskOf", r.coefs)
		wantNorms(t, r.coefs)
	}
}

// TestOneCoefficient: what is at one place alone is in the norm of one band, or in none.
func TestOneCoefficient(t *testing.T) {
	for _, n := range blockLengths {
		for at, name := range belongs[n] {
			for _, v := range []int64{1, 2, 5, 1000, coefEnd - 1, coefEnd} {
				norms, mask := filled(len(sizeBands[n]), 0), int64(lastMask)
				if name != '-' {
					norms[name-'0'], mask = v, 0
				}
				for _, coef := range []int64{v, -v} {
					coefs := withAt(filled(n, 0), at, coef)
					wantInts(t, impl.BandNorms(int64(n), coefs), impl.OK, norms, "BandNorms", coefs)
					wantInt(t, impl.MaskOf(int64(n), coefs), impl.OK, mask, "MaskOf", coefs)
				}
			}
		}
	}
}

// TestNormsOfSmallBlocks: all blocks of 4 whose coefficients are near 0.
func TestNormsOfSmallBlocks(t *testing.T) {
	for _, a := range fromTo(-9, 9) {
		for _, b := range fromTo(-9, 9) {
			for _, c := range fromTo(-3, 3) {
				for _, d := range fromTo(-3, 3) {
					wantNorms(t, []int64{a, b, c, d})
					wantNorms(t, []int64{9 * a, 20 * b, c, d})
				}
			}
		}
	}
}

// TestNormsAny: of any coefficients, and of those of blocks, which get smaller from the first one on.
func TestNormsAny(t *testing.T) {
	r := rand.New(rand.NewSource(131))
	seen := map[int64]int{}
	for _, n := range blockLengths {
		for range 6000 {
			coefs := slices.Concat(anyList(r, n/2, coefEnd), anyList(r, n/4, coefEnd), anyList(r, n/4, coefEnd))
			wantNorms(t, coefs)
			wantNorms(t, impl.SpreadBlock(anyList(r, n, blockEnd)).List)
			seen[impl.MaskOf(int64(n), coefs).Value]++
		}
	}
	if len(seen) != lastMask+1 || min(seen[0], seen[1], seen[2], seen[3]) < 500 {
		t.Error(seen)
	}
}

// TestNormsAtTheEnds: coefficients as far from 0 as they can be, with all signs.
func TestNormsAtTheEnds(t *testing.T) {
	for _, n := range blockLengths {
		dim := int64(n / 2 / len(sizeBands[n]))
		for signs := 0; signs < 1<<n; signs += 1 + n/16*30 {
			coefs := signed(n, signs, coefEnd)
			wantInts(t, impl.BandNorms(int64(n), coefs), impl.OK, filled(len(sizeBands[n]), dim*coefEnd), "BandNorms", coefs)
			wantInt(t, impl.MaskOf(int64(n), coefs), impl.OK, 0, "MaskOf", coefs)
			clear(coefs[n/2:])
			wantInts(t, impl.BandNorms(int64(n), coefs), impl.OK, filled(len(sizeBands[n]), 0), "BandNorms", coefs)
			wantInt(t, impl.MaskOf(int64(n), coefs), impl.OK, 3, "MaskOf", coefs)
			for _, v := range besideEnds(coefEnd) {
				wantNorms(t, withAt(coefs, n-1, v))
				wantNorms(t, withAt(coefs, n/2, v))
			}
		}
	}
}

// TestMaskAtItsBounds: 4, 16 and 64 times the norm of the others just at that of the low ones, and one above it and below it.
func TestMaskAtItsBounds(t *testing.T) {
	r := rand.New(rand.NewSource(132))
	for _, n := range blockLengths {
		for mask, times := range maskTimes {
			most := int64(n/2) * coefEnd / times
			for _, high := range []int64{1, 2, 3, 4, 5, 15, 16, 17, 63, 64, 65, 1000, 65535, 65536, most / 3, most / 2, most - 1, 1 + r.Int63n(most-1), 1 + r.Int63n(most-1)} {
				wantMask(t, r, n, times*high-1, high, int64(mask))
				wantMask(t, r, n, times*high, high, int64(mask))
				wantMask(t, r, n, times*high+1, high, int64(mask)+1)
			}
			wantMask(t, r, n, times*most, most, int64(mask)) // no norm of low ones is greater
			wantMask(t, r, n, times*most, most-1, int64(mask)+1)
			wantMask(t, r, n, times*most, most+1, int64(mask))
		}
	}
}

// TestMaskOfOneNorm: as the others get more beside the same low ones, each mask goes over into the finer one where it has to.
func TestMaskOfOneNorm(t *testing.T) {
	for _, n := range blockLengths {
		for _, low := range []int64{1, 2, 3, 4, 5, 15, 16, 17, 63, 64, 65, 127, 128, 129, 255, 256, 257, 1000, 4095, 4096, 4097} {
			last := int64(lastMask)
			for high := range low {
				got := impl.MaskOf(int64(n), slices.Concat(evenly(n/2, low), evenly(n/2, high)))
				wantInt(t, got, impl.OK, maskByShares(low, high), "MaskOf", n, low, high)
				if got.Value > last || got.Value < last-1 && high > 1 {
					t.Errorf("%d, %d and %d: the mask %d behind %d", n, low, high, got.Value, last)
				}
				last = got.Value
			}
			if low > 1 && last != 0 {
				t.Errorf("%d, %d: the mask %d", n, low, last)
			}
		}
	}
}

// TestMaskOfNothing: all coefficients 0, the low ones alone, and the others alone.
func TestMaskOfNothing(t *testing.T) {
	r := rand.New(rand.NewSource(133))
	for _, n := range blockLengths {
		wantMask(t, r, n, 0, 0, 0)
		wantInts(t, impl.BandNorms(int64(n), filled(n, 0)), impl.OK, filled(len(sizeBands[n]), 0), "BandNorms", n)
		for _, sum := range []int64{1, 2, 3, 4, 16, 64, 1000, coefEnd, int64(n/2)*coefEnd - 1, int64(n/2) * coefEnd} {
			wantMask(t, r, n, 0, sum, 0)
			wantMask(t, r, n, sum, 0, 3)
			wantMask(t, r, n, sum, sum, 0)
		}
	}
}

// TestCoefsTooMany: how many there are is told ahead of what they are.
func TestCoefsTooMany(t *testing.T) {
	for _, n := range blockLengths {
		wantNoBands(t, int64(n), nil, impl.ErrMany)
		for other := range 70 {
			if other == n {
				continue
			}
			for _, v := range slices.Concat([]int64{0, 1}, besideEnds(coefEnd), beyond(coefEnd)) {
				wantNoBands(t, int64(n), filled(other, v), impl.ErrMany)
			}
		}
		wantNoBands(t, int64(n), filled(1<<16+n, 0), impl.ErrMany)
	}
}

// TestCoefsBeyond: each wrong number at each place, low ones and others.
func TestCoefsBeyond(t *testing.T) {
	for _, n := range blockLengths {
		for at := range n {
			for _, v := range beyond(coefEnd) {
				for _, other := range []int64{0, 1, coefEnd, -coefEnd, v} {
					wantNoBands(t, int64(n), withAt(filled(n, other), at, v), impl.ErrRange)
				}
			}
			for _, v := range besideEnds(coefEnd) {
				wantNorms(t, withAt(filled(n, 0), at, v))
			}
		}
	}
}

// TestCoefFaultsAny: right and wrong arguments side by side, against the codes in the chapter's order; all codes are met.
func TestCoefFaultsAny(t *testing.T) {
	r := rand.New(rand.NewSource(134))
	sizes := append([]int64{4, 4, 8, 8, 16, 16}, noSizes[:17]...)
	seen := map[int64]int{}
	for range 30000 {
		size := sizes[r.Intn(len(sizes))]
		coefs := anyList(r, []int{4, 8, 16, max(int(size), 0), r.Intn(20)}[r.Intn(5)], []int64{8, coefEnd, coefEnd + 3, 1 << 40}[r.Intn(4)])
		code := bandFaultOf(size, coefs)
		seen[code]++
		if code == impl.OK {
			wantNorms(t, coefs)
		} else {
			wantNoBands(t, size, coefs, code)
		}
	}
	if len(seen) != 3 || min(seen[impl.OK], seen[impl.ErrMany], seen[impl.ErrRange]) < 1000 {
		t.Error(seen)
	}
}

func TestPulsesForMasks(t *testing.T) {
	for mask, k := range []int64{8, 6, 4, 2} {
		wantInt(t, impl.PulsesFor(int64(mask)), impl.OK, k, "PulsesFor", mask)
		if impl.CountPulses(lastDim, k).Code != impl.OK || k == 0 {
			t.Errorf("%d are no pulses", k)
		}
	}
	for _, mask := range noMasks {
		wantInt(t, impl.PulsesFor(mask), impl.ErrRange, 0, "PulsesFor", mask)
	}
}

// TestGainRungs: all rungs with all masks: one up at each further mask but for the last rung, where all of them end.
func TestGainRungs(t *testing.T) {
	for rung := range int64(lastRung + 1) {
		for mask := range int64(lastMask + 1) {
			want := rung
			for range 2 * mask {
				if want < lastRung {
					want++
				}
			}
			wantInt(t, impl.GainRung(rung, mask), impl.OK, want, "GainRung", rung, mask)
			if want != lastRung && rung > 0 && impl.StepOf(want).Value != impl.StepOf(rung).Value<<mask {
				t.Errorf("GainRung %d, %d: the step of %d is not %d times as great", rung, mask, want, 1<<mask)
			}
		}
	}
	rows := []struct{ rung, mask, want int64 }{
		{0, 0, 0}, {0, 1, 2}, {0, 2, 4}, {0, 3, 6}, {1, 3, 7}, {40, 0, 40}, {40, 3, 46}, {41, 2, 45}, {41, 3, 47}, {42, 2, 46}, {42, 3, 47}, {43, 1, 45}, {43, 2, 47}, {43, 3, 47},
		{44, 1, 46}, {44, 2, 47}, {45, 0, 45}, {45, 1, 47}, {45, 2, 47}, {46, 0, 46}, {46, 1, 47}, {46, 2, 47}, {46, 3, 47}, {47, 0, 47}, {47, 1, 47}, {47, 2, 47}, {47, 3, 47},
	}
	for _, r := range rows {
		wantInt(t, impl.GainRung(r.rung, r.mask), impl.OK, r.want, "GainRung", r.rung, r.mask)
	}
}

func TestGainRungFaults(t *testing.T) {
	for _, rung := range noRungs {
		for _, mask := range append([]int64{0, 1, 2, lastMask}, noMasks...) {
			wantInt(t, impl.GainRung(rung, mask), impl.ErrRange, 0, "GainRung", rung, mask)
		}
	}
	for _, mask := range noMasks {
		for rung := range int64(lastRung + 1) {
			wantInt(t, impl.GainRung(rung, mask), impl.ErrRange, 0, "GainRung", rung, mask)
		}
	}
}

// TestOwnersTakeTurns: each number has its two bands on both sides, and each band goes over to the other side with the next number.
func TestOwnersTakeTurns(t *testing.T) {
	next := [2]int64{0, 1}
	for number := range int64(lastNumber + 1) {
		for band, side := range next {
			wantInt(t, impl.OwnerOf(number, int64(band)), impl.OK, side, "OwnerOf", number, band)
		}
		next[0], next[1] = next[1], next[0]
	}
	rows := []struct{ number, band, side int64 }{{0, 0, 0}, {0, 1, 1}, {1, 0, 1}, {1, 1, 0}, {2, 0, 0}, {3, 0, 1}, {3, 1, 0}, {9998, 0, 0}, {9998, 1, 1}, {9999, 0, 1}, {9999, 1, 0}}
	for _, r := range rows {
		wantInt(t, impl.OwnerOf(r.number, r.band), impl.OK, r.side, "OwnerOf", r.number, r.band)
	}
}

func TestOwnerFaults(t *testing.T) {
	noBandNumbers := noSides // both are 0 or 1 alone
	for _, number := range noNumbers {
		for _, band := range append([]int64{0, 1}, noBandNumbers...) {
			wantInt(t, impl.OwnerOf(number, band), impl.ErrRange, 0, "OwnerOf", number, band)
		}
	}
	for _, band := range noBandNumbers {
		for _, number := range []int64{0, 1, 2, 3, 4, 5000, lastNumber - 1, lastNumber} {
			wantInt(t, impl.OwnerOf(number, band), impl.ErrRange, 0, "OwnerOf", number, band)
		}
	}
}

// TestBandsShareNothing: an argument, and what lies behind its end, stays, and no answer is the memory of another one; right ones and wrong ones.
func TestBandsShareNothing(t *testing.T) {
	r := rand.New(rand.NewSource(135))
	for _, n := range blockLengths {
		size := int64(n)
		ask := func(list []int64) [][]int64 {
			impl.MaskOf(size, list)
			return [][]int64{impl.BandNorms(size, list).List, impl.BandNorms(size, list).List}
		}
		for range 500 {
			coefs := anyList(r, n, coefEnd)
			wantStay(t, coefs, ask, "BandNorms")
			wantStay(t, withAt(coefs, r.Intn(n), coefEnd+1), ask, "BandNorms of a wrong coefficient")
			wantStay(t, coefs[:r.Intn(n)], ask, "BandNorms of too few")
			wantStay(t, anyList(r, n+1+r.Intn(9), coefEnd), ask, "BandNorms of too many")
			wantOwn(t, func() []int64 { return impl.BandNorms(size, coefs).List }, slices.Equal, "BandNorms")
		}
		wantOwn(t, func() []impl.Band { return impl.BandsOf(size).List }, slices.Equal, "BandsOf")
	}
}

// bandCall is what is asked of all functions of the chapter together.
type bandCall struct {
	size, number, band, mask, rung int64
	coefs                          []int64
}

func (c bandCall) answers() ([5]impl.IntResult, []impl.IntsResult) {
	bands := impl.IntsResult{Code: impl.BandsOf(c.size).Code}
	for _, b := range impl.BandsOf(c.size).List {
		bands.List = append(bands.List, b.From, b.Dim)
	}
	numbers := [5]impl.IntResult{impl.LowCount(c.size), impl.MaskOf(c.size, c.coefs), impl.PulsesFor(c.mask), impl.GainRung(c.rung, c.mask), impl.OwnerOf(c.number, c.band)}
	return numbers, []impl.IntsResult{bands, impl.BandNorms(c.size, c.coefs)}
}

// bandCalls are right ones and wrong ones.
func bandCalls() []bandCall {
	r := rand.New(rand.NewSource(136))
	var calls []bandCall
	for _, size := range []int64{4, 8, 16, 0, 5} {
		for _, number := range []int64{0, 1, 2, 7, lastNumber, lastNumber + 1, -1} {
			for mask := int64(-1); mask <= lastMask+1; mask++ {
				for _, n := range []int{int(size), int(size), 4, 9} {
					calls = append(calls, bandCall{size, number, r.Int63n(4) - 1, mask, r.Int63n(lastRung+3) - 1, slices.Concat(anyList(r, n/2, coefEnd), anyList(r, n-n/2, coefEnd))})
				}
				calls = append(calls, bandCall{size, number, 0, mask, 0, filled(int(size), 0)}, bandCall{size, number, 1, mask, lastRung, filled(int(size), coefEnd+1)}, bandCall{size: size})
			}
		}
	}
	return calls
}

// TestBandsHangOnArguments: whatever is asked between, in whatever order, and beside it.
func TestBandsHangOnArguments(t *testing.T) {
	wantSameAnswers(t, bandCalls(), bandCall.answers)
}
