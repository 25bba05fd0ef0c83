package tests

import (
	"fmt"
	"math"
	"math/rand"
	"slices"
	"testing"

	"loop.example/g00657/impl"
)

// maskPulses are how many pulses a band has at each mask, written out.
var maskPulses = [lastMask + 1]int64{8, 6, 4, 2}

// gainRungOf counts up from the rung, twice for each mask; there is no rung above the last one.
func gainRungOf(rung int64, mask int64) int64 {
	for range 2 * mask {
		if rung < lastRung {
			rung++
		}
	}
	return rung
}

// lastIndex is the greatest index, of those up to end, that tells a coefficient by this rung.
func lastIndex(rung int64, end int64) int64 {
	return min(end, coefEnd/ladderSteps[rung])
}

// isFrameHead asks the fields that are numbers.
func isFrameHead(f impl.Frame) bool {
	heads := [][3]int64{{f.Number, 0, lastNumber}, {f.Rung, 0, lastRung}, {f.Mask, 0, lastMask}, {f.Spread, 0, lastSpread}}
	for _, h := range heads {
		if h[0] < h[1] || h[0] > h[2] {
			return false
		}
	}
	return f.Size == 4 || f.Size == 8 || f.Size == 16
}

// frameCodeOf is the code that the document asks of a frame.
func frameCodeOf(f impl.Frame) int64 {
	if !isFrameHead(f) {
		return impl.ErrRange
	}
	bands := sizeBands[int(f.Size)]
	if 2*len(f.Lows) != int(f.Size) || len(f.Gains) != len(bands) || len(f.Pulses) != len(bands) {
		return impl.ErrMany
	}
	low, gain := lastIndex(f.Rung, indexEnd), lastIndex(gainRungOf(f.Rung, f.Mask), valueEnd)
	if !between(f.Lows, -low, low) || !between(f.Gains, 0, gain) {
		return impl.ErrRange
	}
	for i, b := range bands {
		switch {
		case int64(len(f.Pulses[i])) != b.Dim:
			return impl.ErrMany
		case !arePulses(f.Pulses[i], maskPulses[f.Mask]):
			return impl.ErrForm
		}
	}
	return impl.OK
}

// makeCodeOf is the code that is asked of what a frame is made of, ahead of that of the frame.
func makeCodeOf(size int64, number int64, coefs []int64, rung int64, spread int64) int64 {
	if number < 0 || number > lastNumber {
		return impl.ErrRange
	}
	if code := bandFaultOf(size, coefs); code != impl.OK {
		return code
	}
	if rung < 0 || rung > lastRung || spread < 0 || spread > lastSpread {
		return impl.ErrRange
	}
	return impl.OK
}

// frameByWords makes a frame place by place.
func frameByWords(size int64, number int64, coefs []int64, rung int64, spread int64) impl.FrameResult {
	if code := makeCodeOf(size, number, coefs, rung, spread); code != impl.OK {
		return impl.FrameResult{Code: code}
	}
	low, norms := normsAt(coefs)
	f := impl.Frame{Number: number, Size: size, Rung: rung, Mask: maskByShares(low, normBySigns(norms)), Spread: spread}
	for i, c := range coefs {
		if belongs[len(coefs)][i] == '-' {
			f.Lows = append(f.Lows, nearestOf(c, ladderSteps[rung]))
		}
	}
	for i, b := range sizeBands[len(coefs)] {
		f.Gains = append(f.Gains, nearestOf(norms[i], ladderSteps[gainRungOf(rung, f.Mask)]))
		f.Pulses = append(f.Pulses, pulsesByWords(coefs[b.From:b.From+b.Dim], maskPulses[f.Mask]))
	}
	if code := frameCodeOf(f); code != impl.OK {
		return impl.FrameResult{Code: code}
	}
	return impl.FrameResult{Frame: f}
}

// centralByWords has the coefficients that a right frame tells, and by how much each of them may be off.
func centralByWords(f impl.Frame) (coefs []int64, bounds []int64) {
	step, gainStep, k := ladderSteps[f.Rung], ladderSteps[gainRungOf(f.Rung, f.Mask)], maskPulses[f.Mask]
	for _, q := range f.Lows {
		coefs, bounds = append(coefs, q*step), append(bounds, step/2)
	}
	for i, pulses := range f.Pulses {
		gain := f.Gains[i] * gainStep
		for _, v := range shapeByWords(pulses, k, gain) {
			coefs, bounds = append(coefs, v), append(bounds, ceilOf(gain+gainStep/2, k)+gainStep/2+1)
		}
	}
	return coefs, bounds
}

// frameText tells all of a frame; nil and an empty list are told in the same way.
func frameText(f impl.Frame) string {
	return fmt.Sprint(f.Number, f.Size, f.Rung, f.Mask, f.Spread, f.Lows, f.Gains, f.Pulses)
}

// framesAlike holds frames against each other without the function that is asked here.
func framesAlike(a impl.Frame, b impl.Frame) bool {
	return a.Number == b.Number && a.Size == b.Size && a.Rung == b.Rung && a.Mask == b.Mask && a.Spread == b.Spread &&
		slices.Equal(a.Lows, b.Lows) && slices.Equal(a.Gains, b.Gains) && slices.EqualFunc(a.Pulses, b.Pulses, slices.Equal)
}

// frameCopy shares no memory with f.
func frameCopy(f impl.Frame) impl.Frame {
	f.Lows, f.Gains, f.Pulses = slices.Clone(f.Lows), slices.Clone(f.Gains), slices.Clone(f.Pulses)
	for i, list := range f.Pulses {
		f.Pulses[i] = slices.Clone(list)
	}
	return f
}

// withLow, withGain and withPulses are copies of f that have another number, or other pulses, at one place.
func withLow(f impl.Frame, at int, v int64) impl.Frame {
	f = frameCopy(f)
	f.Lows[at] = v
	return f
}

func withGain(f impl.Frame, at int, v int64) impl.Frame {
	f = frameCopy(f)
	f.Gains[at] = v
	return f
}

func withPulses(f impl.Frame, at int, list []int64) impl.Frame {
	f = frameCopy(f)
	f.Pulses[at] = slices.Clone(list)
	return f
}

// anyFrame is a right one; its indices are as often at their ends as anywhere else.
func anyFrame(r *rand.Rand) impl.Frame {
	n := blockLengths[r.Intn(3)]
	f := impl.Frame{Number: r.Int63n(lastNumber + 1), Size: int64(n), Rung: r.Int63n(lastRung + 1), Mask: r.Int63n(lastMask + 1), Spread: r.Int63n(lastSpread + 1)}
	low, gain := lastIndex(f.Rung, indexEnd), lastIndex(gainRungOf(f.Rung, f.Mask), valueEnd)
	f.Lows = anyList(r, n/2, low)
	if r.Intn(2) == 0 {
		f.Lows[r.Intn(n/2)] = low * (2*r.Int63n(2) - 1)
	}
	for _, b := range sizeBands[n] {
		all := allPulses[b.Dim-1][maskPulses[f.Mask]]
		f.Gains = append(f.Gains, []int64{0, gain, r.Int63n(gain + 1), r.Int63n(gain + 1)}[r.Intn(4)])
		f.Pulses = append(f.Pulses, slices.Clone(all[r.Intn(len(all))]))
	}
	return f
}

// blockWithMask has n coefficients whose mask is mask; the norm of all but the low ones is high, which is above 0 and not too great for that.
func blockWithMask(r *rand.Rand, n int, mask int64, high int64) []int64 {
	bounds := [lastMask + 2]int64{0, 4 * high, 16 * high, 64 * high, int64(n/2) * coefEnd}
	least := min(mask, 1) + bounds[mask]
	low := least + r.Int63n(min(bounds[mask+1], 300*high)-least+1)
	return slices.Concat(dealt(r, n/2, low), dealt(r, n/2, high))
}

// wantCentral asks all that a right frame tells.
func wantCentral(t *testing.T, f impl.Frame) {
	t.Helper()
	coefs, bounds := centralByWords(f)
	wantCode(t, impl.FrameFault(f), impl.OK, "FrameFault", f)
	wantInts(t, impl.CentralCoefs(f), impl.OK, coefs, "CentralCoefs", f)
	wantInts(t, impl.CentralBounds(f), impl.OK, bounds, "CentralBounds", f)
	if !impl.SameFrames(f, f) || !impl.SameFrames(f, frameCopy(f)) || !impl.IsWithin(coefs, coefs, bounds) {
		t.Errorf("%v is not the same as itself, or not within its bounds", f)
	}
	for _, v := range coefs {
		if v < -coefEnd || v > coefEnd {
			t.Errorf("CentralCoefs %v: got %v", f, coefs)
		}
	}
}

// wantNoFrame asks the same of a wrong one.
func wantNoFrame(t *testing.T, f impl.Frame, code int64) {
	t.Helper()
	wantCode(t, frameCodeOf(f), code, "the code that is asked of", f)
	wantCode(t, impl.FrameFault(f), code, "FrameFault", f)
	wantInts(t, impl.CentralCoefs(f), code, nil, "CentralCoefs", f)
	wantInts(t, impl.CentralBounds(f), code, nil, "CentralBounds", f)
	if !impl.SameFrames(f, frameCopy(f)) {
		t.Errorf("%v is not the same as itself", f)
	}
}

// wantFrame asks one or the other.
func wantFrame(t *testing.T, f impl.Frame) int64 {
	t.Helper()
	code := frameCodeOf(f)
	if code == impl.OK {
		wantCentral(t, f)
	} else {
		wantNoFrame(t, f, code)
	}
	return code
}

// wantMade asks MakeFrame of anything. What a frame tells is as near to the coefficients of which it was made as it tells.
func wantMade(t *testing.T, size int64, number int64, coefs []int64, rung int64, spread int64) impl.FrameResult {
	t.Helper()
	got, want := impl.MakeFrame(size, number, coefs, rung, spread), frameByWords(size, number, coefs, rung, spread)
	if got.Code != want.Code || !framesAlike(got.Frame, want.Frame) {
		t.Errorf("MakeFrame %d, %d, %v, %d, %d: got %+v, want %+v", size, number, coefs, rung, spread, got, want)
	}
	if got.Code == impl.OK {
		wantCentral(t, got.Frame)
		wantNear(t, impl.CentralCoefs(got.Frame).List, coefs, impl.CentralBounds(got.Frame).List, "a frame of", got.Frame)
	}
	return got
}

// wantNotMade asks MakeFrame for one code.
func wantNotMade(t *testing.T, size int64, number int64, coefs []int64, rung int64, spread int64, code int64) {
	t.Helper()
	got := wantMade(t, size, number, coefs, rung, spread)
	wantCode(t, got.Code, code, "MakeFrame", size, number, coefs, rung, spread)
}

func TestFrameConstants(t *testing.T) {
	if impl.MaxNumber != 9999 || impl.MaxIndex != indexEnd || impl.MaxValue != valueEnd || impl.MaxSpread != lastSpread {
		t.Error(impl.MaxNumber, impl.MaxIndex, impl.MaxValue, impl.MaxSpread)
	}
}

// TestFrameExamples: each field, each coefficient and each bound counted by hand.
func TestFrameExamples(t *testing.T) {
	rows := []struct {
		coefs, central, bounds []int64
		frame                  impl.Frame
	}{
		// 27 of the low ones, 8 of the others: 32 is not below 27. The steps are 2 and 2. 9/8 is rounded up to 2; and 1, and 1
		{[]int64{20, -7, 6, 2}, []int64{20, -8, 6, 2}, []int64{1, 1, 4, 4},
			impl.Frame{Number: 5, Size: 4, Rung: 1, Lows: []int64{10, -4}, Gains: []int64{4}, Pulses: [][]int64{{6, 2}}}},
		// 200 and 3: 192 is below 200. The steps are 1 and 12 (of the rung 6). 6/2, and 6, and 1
		{[]int64{100, -100, 0, -3}, []int64{100, -100, 0, 0}, []int64{0, 0, 10, 10},
			impl.Frame{Number: 0, Size: 4, Rung: 0, Mask: 3, Spread: 1, Lows: []int64{100, -100}, Gains: []int64{0}, Pulses: [][]int64{{0, -2}}}},
		// 21 and 5: 20 is below 21, 80 is not. The steps are 3 and 6. Pulses: 3 3/5 and 2 2/5. 9/6 is rounded up to 2; and 3, and 1
		{[]int64{-9, 12, 3, -2}, []int64{-9, 12, 4, -2}, []int64{1, 1, 6, 6},
			impl.Frame{Number: 9999, Size: 4, Rung: 2, Mask: 1, Spread: 2, Lows: []int64{-3, 4}, Gains: []int64{1}, Pulses: [][]int64{{4, -2}}}},
		// a gain of 8, just as it is
		{[]int64{0, 0, -5, 3}, []int64{0, 0, -5, 3}, []int64{0, 0, 2, 2},
			impl.Frame{Size: 4, Lows: []int64{0, 0}, Gains: []int64{8}, Pulses: [][]int64{{-5, 3}}}},
		// all indices as far from 0 as they can be. 65535/8 is rounded up to 8192; and 1
		{[]int64{30000, -30000, 65535, 0}, []int64{30000, -30000, 65535, 0}, []int64{0, 0, 8193, 8193},
			impl.Frame{Number: 9999, Size: 4, Spread: 2, Lows: []int64{30000, -30000}, Gains: []int64{65535}, Pulses: [][]int64{{8, 0}}}},
		// 640 and 18: 72 and 288 are below 640, 1152 is not. The steps are 6 and 24. Pulses: 2 6/15 and 1 9/15. 36/4, and 12, and 1; 12/4, and 12, and 1
		{[]int64{500, -100, 40, 0, 9, -6, 3, 0}, []int64{498, -102, 42, 0, 12, -12, 0, 0}, []int64{3, 3, 3, 3, 22, 22, 16, 16},
			impl.Frame{Number: 7, Size: 8, Rung: 4, Mask: 2, Spread: 2, Lows: []int64{83, -17, 7, 0}, Gains: []int64{1, 0}, Pulses: [][]int64{{2, -2}, {4, 0}}}},
		// steps of 16777216 for all. Pulses: 3 7/11 and 4 4/11, 3 11/15 and 4 4/15. 8388608/8, and 8388608, and 1
		{[]int64{1, 2, 3, 4, 5, 6, 7, 8}, filled(8, 0), slices.Concat(filled(4, 8388608), filled(4, 9437185)),
			impl.Frame{Number: 1, Size: 8, Rung: 47, Lows: filled(4, 0), Gains: []int64{0, 0}, Pulses: [][]int64{{4, 4}, {4, 4}}}},
		// 768/8, and 768, and 1
		{filled(8, 0), filled(8, 0), slices.Concat(filled(4, 768), filled(4, 865)),
			impl.Frame{Number: 9998, Size: 8, Rung: 20, Spread: 1, Lows: filled(4, 0), Gains: []int64{0, 0}, Pulses: [][]int64{{8, 0}, {8, 0}}}},
		// coefficients as far from 0 as they can be. 25165824/8, and 8388608, and 1
		{[]int64{coefEnd, -coefEnd, 0, 1, coefEnd, 0, 0, -coefEnd}, []int64{coefEnd, -coefEnd, 0, 0, coefEnd, 0, 0, -coefEnd}, slices.Concat(filled(4, 8388608), filled(4, 11534337)),
			impl.Frame{Number: 3, Size: 8, Rung: 47, Lows: []int64{1, -1, 0, 0}, Gains: []int64{1, 1}, Pulses: [][]int64{{8, 0}, {0, -8}}}},
		// 2123 and 130: 2080 is below 2123. The steps are 32 and 128. Pulses: 1 90/110, 1 10/110, 80/110 and 40/110, 1 8/20, 1 8/20, 1 and 4/20. 192/4, and 64, and 1; 64/4, and 64, and 1
		{[]int64{1000, -999, 31, -31, 16, -16, 15, -15, 50, -30, 20, -10, 7, 7, 5, 1}, []int64{992, -992, 32, -32, 32, -32, 0, 0, 64, -32, 32, 0, 0, 0, 0, 0}, slices.Concat(filled(8, 16), filled(4, 113), filled(4, 81)),
			impl.Frame{Number: 42, Size: 16, Rung: 9, Mask: 2, Spread: 1, Lows: []int64{31, -31, 1, -1, 1, -1, 0, 0}, Gains: []int64{1, 0}, Pulses: [][]int64{{2, -1, 1, 0}, {2, 1, 1, 0}}}},
		// 65 and 1: 64 is below 65. A step of 8388608, and, as there is no rung 51, one of 16777216. 8388608/2, and 8388608, and 1
		{[]int64{8, 8, 8, 8, -8, -8, -8, -9, 1, 0, 0, 0, 0, 0, 0, 0}, filled(16, 0), slices.Concat(filled(8, 4194304), filled(8, 12582913)),
			impl.Frame{Number: 2, Size: 16, Rung: 45, Mask: 3, Lows: filled(8, 0), Gains: []int64{0, 0}, Pulses: [][]int64{{2, 0, 0, 0}, {2, 0, 0, 0}}}},
		// 134217728 and 6291456: 100663296 is below it. Steps of 3145728, and of 12582912, of which the gain is half: no greater one than 1 can be restored. 18874368/4, and 6291456, and 1; 6291456/4, and 6291456, and 1
		{slices.Concat(filled(8, coefEnd), []int64{6291456}, filled(7, 0)), slices.Concat(filled(8, 15728640), []int64{12582912}, filled(7, 0)), slices.Concat(filled(8, 1572864), filled(4, 11010049), filled(4, 7864321)),
			impl.Frame{Number: 9, Size: 16, Rung: 42, Mask: 2, Lows: filled(8, 5), Gains: []int64{1, 0}, Pulses: [][]int64{{4, 0, 0, 0}, {4, 0, 0, 0}}}},
	}
	for _, r := range rows {
		got := impl.MakeFrame(r.frame.Size, r.frame.Number, r.coefs, r.frame.Rung, r.frame.Spread)
		if got.Code != impl.OK || !framesAlike(got.Frame, r.frame) {
			t.Errorf("MakeFrame %v: got %+v, want %+v", r.coefs, got, r.frame)
		}
		wantCode(t, impl.FrameFault(r.frame), impl.OK, "FrameFault", r.frame)
		wantInts(t, impl.CentralCoefs(r.frame), impl.OK, r.central, "CentralCoefs", r.frame)
		wantInts(t, impl.CentralBounds(r.frame), impl.OK, r.bounds, "CentralBounds", r.frame)
		wantMade(t, r.frame.Size, r.frame.Number, r.coefs, r.frame.Rung, r.frame.Spread)
	}
}

// TestFramesOfEachMask: blocks of each mask, of each size, by all rungs and with each spread.
func TestFramesOfEachMask(t *testing.T) {
	r := rand.New(rand.NewSource(141))
	for _, n := range blockLengths {
		for mask := range int64(lastMask + 1) {
			made := 0
			for rung := range int64(lastRung + 1) {
				for spread := range int64(lastSpread + 1) {
					for _, high := range []int64{1, 5, 1 + r.Int63n(1000), 1 + r.Int63n(100000), 1 + r.Int63n(coefEnd/64), int64(n/2) * coefEnd / 65} {
						got := wantMade(t, int64(n), r.Int63n(lastNumber+1), blockWithMask(r, n, mask, high), rung, spread)
						if got.Code != impl.OK {
							continue
						}
						made++
						if got.Frame.Mask != mask || got.Frame.Rung != rung || got.Frame.Spread != spread {
							t.Errorf("%d, %d, %d, %d: got %+v", n, mask, rung, spread, got.Frame)
						}
					}
				}
			}
			if made < 500 {
				t.Errorf("%d, %d: %d frames were made", n, mask, made)
			}
		}
	}
}

// TestFramesOfBlocks: of the coefficients of any blocks, by the finest rung at which all indices of low ones are small enough, and by those beside it.
func TestFramesOfBlocks(t *testing.T) {
	r := rand.New(rand.NewSource(142))
	made := 0
	for _, n := range blockLengths {
		for range 3000 {
			coefs := impl.SpreadBlock(anyList(r, n, blockEnd)).List
			finest := impl.FinestRung(coefs[:n/2], indexEnd).Value
			for _, rung := range []int64{finest, finest + 1, finest + r.Int63n(lastRung+1-finest)} {
				if wantMade(t, int64(n), r.Int63n(lastNumber+1), coefs, rung, r.Int63n(lastSpread+1)).Code == impl.OK {
					made++
				}
			}
			wantNotMade(t, int64(n), 0, coefs, finest-1, 0, impl.ErrRange)
		}
	}
	if made < 15000 {
		t.Errorf("%d frames were made", made)
	}
}

// TestFramesAny: any coefficients by any rung; frames that are made and those that are not.
func TestFramesAny(t *testing.T) {
	r := rand.New(rand.NewSource(143))
	seen := map[int64]int{}
	for range 20000 {
		n := blockLengths[r.Intn(3)]
		coefs := slices.Concat(anyList(r, n/2, coefEnd), anyList(r, n/4, coefEnd), anyList(r, n/4, coefEnd))
		seen[wantMade(t, int64(n), r.Int63n(lastNumber+1), coefs, r.Int63n(lastRung+1), r.Int63n(lastSpread+1)).Code]++
	}
	if len(seen) != 2 || min(seen[impl.OK], seen[impl.ErrRange]) < 2000 {
		t.Error(seen)
	}
}

// TestSmallFrames: all blocks of 4 whose coefficients are near 0, by the finest rungs.
func TestSmallFrames(t *testing.T) {
	for _, a := range fromTo(-5, 5) {
		for _, b := range []int64{0, 1, -7, 20} {
			for _, c := range fromTo(-4, 4) {
				for _, d := range fromTo(-4, 4) {
					for rung := range int64(5) {
						wantMade(t, 4, 7, []int64{a, b, c, d}, rung, 1)
					}
				}
			}
		}
	}
}

// TestFramesOfNothing: all coefficients 0, by all rungs: each band has all its pulses at its first place, and no gain.
func TestFramesOfNothing(t *testing.T) {
	for _, n := range blockLengths {
		for rung := range int64(lastRung + 1) {
			for spread := range int64(lastSpread + 1) {
				for _, number := range []int64{0, 1, lastNumber - 1, lastNumber} {
					f := wantMade(t, int64(n), number, filled(n, 0), rung, spread).Frame
					want := impl.Frame{Number: number, Size: int64(n), Rung: rung, Spread: spread, Lows: filled(n/2, 0)}
					for _, b := range sizeBands[n] {
						want.Gains, want.Pulses = append(want.Gains, 0), append(want.Pulses, withAt(filled(int(b.Dim), 0), 0, 8))
					}
					if !framesAlike(f, want) {
						t.Errorf("got %+v, want %+v", f, want)
					}
					wantInts(t, impl.CentralCoefs(f), impl.OK, filled(n, 0), "CentralCoefs", f)
				}
			}
		}
	}
}

// TestFramesAtTheEnds: coefficients as far from 0 as they can be. All of a band together are beyond what a gain tells by any rung;
// one alone is not, where the step divides it.
func TestFramesAtTheEnds(t *testing.T) {
	for _, n := range blockLengths {
		for rung, step := range ladderSteps {
			for _, signs := range []int{0, 1, 5, 10, 1<<n - 1, 1 << (n - 1)} {
				all := signed(n, signs, coefEnd)
				wantNotMade(t, int64(n), 0, all, int64(rung), 0, impl.ErrRange)
				for at := range int(sizeBands[n][0].Dim) {
					alone := slices.Clone(all)
					clear(alone[n/2:])
					for _, b := range sizeBands[n] {
						alone[int(b.From)+at] = all[int(b.From)+at]
					}
					got := wantMade(t, int64(n), lastNumber, alone, int64(rung), lastSpread)
					if isMade := coefEnd%step == 0 && coefEnd/step <= indexEnd; isMade && got.Code != impl.OK || rung < 16 && got.Code != impl.ErrRange {
						t.Errorf("MakeFrame of %v by %d: got %+v", alone, rung, got)
					}
				}
				clear(all[n/2:])
				wantMade(t, int64(n), 0, all, int64(rung), 1)
			}
		}
	}
}

// TestLowIndicesAtTheirEnds: by each rung the last coefficients, on both sides of 0, whose index is not beyond MaxIndex, and can be restored, and the first ones beyond.
func TestLowIndicesAtTheirEnds(t *testing.T) {
	for _, n := range blockLengths {
		for rung, step := range ladderSteps {
			last := lastIndex(int64(rung), indexEnd)
			c := min(last*step+(step-1)/2, coefEnd)
			for at := range n / 2 {
				for _, sign := range []int64{1, -1} {
					got := wantMade(t, int64(n), 1, withAt(filled(n, 0), at, sign*c), int64(rung), 0)
					if got.Code != impl.OK || got.Frame.Lows[at] != sign*last {
						t.Errorf("MakeFrame of %d at %d by %d: got %+v", sign*c, at, rung, got)
					}
					if c < coefEnd {
						wantNotMade(t, int64(n), 1, withAt(filled(n, 0), at, sign*(c+1)), int64(rung), 0, impl.ErrRange)
					}
					f := withLow(wantMade(t, int64(n), 1, filled(n, 0), int64(rung), 2).Frame, at, sign*last)
					wantCentral(t, f)
					wantNoFrame(t, withLow(f, at, sign*(last+1)), impl.ErrRange)
					for _, v := range besides(sign*indexEnd, sign*coefEnd/step) {
						wantFrame(t, withLow(f, at, v))
					}
				}
			}
		}
	}
}

// TestGainsAtTheirEnds is so for gains, by the rung and the mask: there is none below 0, and the first ones beyond are told in the frame and in what it is made of.
// Low coefficients that leave a mask of 2 or more to the greatest norms of the last gains would be beyond MaxCoef, or have indices beyond MaxIndex.
func TestGainsAtTheirEnds(t *testing.T) {
	r := rand.New(rand.NewSource(144))
	made := map[int64]int{}
	for _, n := range blockLengths {
		for rung := range int64(lastRung + 1) {
			for mask := range int64(lastMask + 1) {
				f := wantMade(t, int64(n), 1, blockWithMask(r, n, mask, 1), 20, 0).Frame
				f.Rung, f.Lows = rung, filled(n/2, 0)
				step := ladderSteps[gainRungOf(rung, mask)]
				last := lastIndex(gainRungOf(rung, mask), valueEnd)
				for at, b := range sizeBands[n] {
					wantCentral(t, withGain(f, at, 0))
					wantCentral(t, withGain(f, at, last))
					wantNoFrame(t, withGain(f, at, last+1), impl.ErrRange)
					wantNoFrame(t, withGain(f, at, -1), impl.ErrRange)
					for _, v := range besides(valueEnd, coefEnd/step, indexEnd) {
						wantFrame(t, withGain(f, at, v))
					}
					norm := last*step + (step-1)/2
					low := 4*norm + 5 // of this one and of the next norm it is more than 4 times as much
					if mask > 1 || mask == 1 && low > int64(n/2)*coefEnd {
						continue
					}
					for i, high := range [][]int64{evenly(int(b.Dim), norm), dealt(r, int(b.Dim), norm), evenly(int(b.Dim), norm+1), dealt(r, int(b.Dim), norm+1)} {
						coefs := filled(n, 0)
						copy(coefs[b.From:], high)
						if mask == 1 {
							copy(coefs, evenly(n/2, low))
						}
						got := wantMade(t, int64(n), 1, coefs, rung, 0)
						if i > 1 {
							wantCode(t, got.Code, impl.ErrRange, "MakeFrame", n, coefs, rung)
						} else if got.Code == impl.OK && got.Frame.Gains[at] == last {
							made[got.Frame.Mask]++
						}
					}
				}
			}
		}
	}
	if made[0] < 480 || made[1] < 100 {
		t.Error(made)
	}
}

// TestGainsOfOneNorm: as the norm of a band grows the gain is the nearest one, of two that are as near the greater one.
func TestGainsOfOneNorm(t *testing.T) {
	for norm := range int64(400) {
		for rung := range int64(14) {
			f := wantMade(t, 4, 0, []int64{0, 0, 0, -norm}, rung, 0).Frame
			if want := nearestOf(norm, ladderSteps[rung]); f.Gains[0] != want || f.Mask != 0 {
				t.Errorf("%d by %d: got %+v", norm, rung, f)
			}
			wantMade(t, 8, 1, []int64{1000, 0, 0, -1000, norm, -5, 0, -norm}, rung, 1)
			wantMade(t, 16, 2, slices.Concat(filled(8, 0), evenly(4, norm), filled(4, -norm)), rung, 2)
		}
	}
}

// TestCentralAny: any right frames, those that are made of no block as well.
func TestCentralAny(t *testing.T) {
	r := rand.New(rand.NewSource(145))
	for range 20000 {
		wantCentral(t, anyFrame(r))
	}
}

// TestCentralOfAllPulses: all pulses of each mask and length.
func TestCentralOfAllPulses(t *testing.T) {
	r := rand.New(rand.NewSource(146))
	for mask, k := range maskPulses {
		for _, n := range blockLengths {
			f := impl.Frame{Number: 3, Size: int64(n), Rung: 3, Mask: int64(mask), Spread: 1, Lows: filled(n/2, 5)}
			for _, b := range sizeBands[n] {
				f.Gains, f.Pulses = append(f.Gains, 1+r.Int63n(9)), append(f.Pulses, withAt(filled(int(b.Dim), 0), 1, -k))
			}
			for at, b := range sizeBands[n] {
				for _, list := range allPulses[b.Dim-1][k] {
					wantCentral(t, withPulses(withGain(f, at, r.Int63n(300)), at, list))
				}
			}
		}
	}
}

// framesFor are right frames of each size and mask.
func framesFor(r *rand.Rand) []impl.Frame {
	var list []impl.Frame
	for _, n := range blockLengths {
		for mask := range int64(lastMask + 1) {
			list = append(list, impl.MakeFrame(int64(n), r.Int63n(lastNumber+1), blockWithMask(r, n, mask, 1+r.Int63n(400)), 9+r.Int63n(20), r.Int63n(lastSpread+1)).Frame)
		}
	}
	return list
}

// wrongLists are copies of f whose lists are wrong: too few or too many of all kinds, numbers too far from 0, other pulses.
func wrongLists(f impl.Frame) []impl.Frame {
	few, many, far, none := frameCopy(f), frameCopy(f), frameCopy(f), frameCopy(f)
	few.Lows, few.Gains, few.Pulses = few.Lows[1:], few.Gains[1:], few.Pulses[1:]
	many.Lows, many.Gains, many.Pulses = append(many.Lows, 0), append(many.Gains, 0), append(many.Pulses, many.Pulses[0])
	far.Lows[0], far.Gains[0], far.Pulses[0] = math.MinInt64, math.MinInt64, []int64{math.MinInt64}
	none.Lows, none.Gains, none.Pulses = nil, nil, nil
	return []impl.Frame{few, many, far, none}
}

// TestFrameHeadFaults: a number, a size, a rung, a mask or a spread that is none is told ahead of all that the lists are.
func TestFrameHeadFaults(t *testing.T) {
	for _, right := range framesFor(rand.New(rand.NewSource(147))) {
		wantCentral(t, right)
		for _, f := range append(wrongLists(right), right) {
			heads := []struct {
				field *int64
				wrong []int64
			}{{&f.Number, noNumbers}, {&f.Size, noSizes}, {&f.Rung, noRungs}, {&f.Mask, noMasks}, {&f.Spread, noSpreads}}
			for _, h := range heads {
				was := *h.field
				for _, v := range h.wrong {
					*h.field = v
					wantNoFrame(t, f, impl.ErrRange)
				}
				*h.field = was
			}
		}
		for _, number := range []int64{0, 1, 4999, lastNumber - 1, lastNumber} {
			for spread := range int64(lastSpread + 1) {
				f := right
				f.Number, f.Spread = number, spread
				wantCentral(t, f)
			}
		}
		for _, size := range []int64{4, 8, 16} {
			f := right
			f.Size = size
			if size == right.Size {
				wantCentral(t, f)
			} else {
				wantNoFrame(t, f, impl.ErrMany)
			}
		}
	}
}

// TestFramesByOtherRungs: the same lists by all rungs and with all masks: what cannot be restored is told ahead of pulses of another number.
func TestFramesByOtherRungs(t *testing.T) {
	seen := map[int64]int{}
	for _, right := range framesFor(rand.New(rand.NewSource(148))) {
		for _, low := range []int64{0, 1, 12, 30000} {
			for _, gain := range []int64{0, 1, 64, valueEnd} {
				for rung := range int64(lastRung + 1) {
					for mask := range int64(lastMask + 1) {
						f := withGain(withLow(right, len(right.Lows)-1, -low), len(right.Gains)-1, gain)
						f.Rung, f.Mask = rung, mask
						seen[wantFrame(t, f)]++
					}
				}
			}
		}
	}
	if len(seen) != 3 || min(seen[impl.OK], seen[impl.ErrRange], seen[impl.ErrForm]) < 1000 {
		t.Error(seen)
	}
}

// TestFrameCountFaults: too few and too many Lows, Gains and Pulses, and none, is told ahead of what they are.
func TestFrameCountFaults(t *testing.T) {
	for _, right := range framesFor(rand.New(rand.NewSource(149))) {
		for _, f := range []impl.Frame{right, wrongLists(right)[2]} {
			for n := range 20 {
				for _, v := range []int64{0, 1, indexEnd + 1, math.MinInt64} {
					if n != len(f.Lows) {
						other := f
						other.Lows = filled(n, v)
						wantNoFrame(t, other, impl.ErrMany)
					}
					if n != len(f.Gains) {
						other := f
						other.Gains = filled(n, v)
						wantNoFrame(t, other, impl.ErrMany)
					}
				}
				for _, pulses := range [][]int64{f.Pulses[0], nil, filled(17, 1)} {
					if n != len(f.Pulses) {
						other := f
						other.Pulses = slices.Repeat([][]int64{pulses}, n)
						wantNoFrame(t, other, impl.ErrMany)
					}
				}
			}
			none := f
			none.Lows, none.Gains, none.Pulses = nil, f.Gains, f.Pulses
			wantNoFrame(t, none, impl.ErrMany)
			none.Lows, none.Gains, none.Pulses = f.Lows, nil, f.Pulses
			wantNoFrame(t, none, impl.ErrMany)
			none.Lows, none.Gains, none.Pulses = f.Lows, f.Gains, nil
			wantNoFrame(t, none, impl.ErrMany)
			none.Lows, none.Gains, none.Pulses = filled(1<<16, 0), f.Gains, f.Pulses
			wantNoFrame(t, none, impl.ErrMany)
		}
	}
	wantNoFrame(t, impl.Frame{}, impl.ErrRange) // no size
	wantNoFrame(t, impl.Frame{Size: 4}, impl.ErrMany)
	// as many Lows as bands, and as many of both as of the other one
	wantNoFrame(t, impl.Frame{Size: 4, Lows: []int64{0}, Gains: []int64{0, 0}, Pulses: [][]int64{{8, 0}}}, impl.ErrMany)
	wantNoFrame(t, impl.Frame{Size: 8, Lows: filled(4, 0), Gains: []int64{0}, Pulses: [][]int64{{8, 0}}}, impl.ErrMany)
	wantNoFrame(t, impl.Frame{Size: 4, Lows: []int64{0, 0}, Gains: []int64{0, 0}, Pulses: [][]int64{{8, 0}, {8, 0}}}, impl.ErrMany)
}

// TestFrameIndexFaults: indices and gains that are none, at each place, are told ahead of what pulses are.
func TestFrameIndexFaults(t *testing.T) {
	for _, right := range framesFor(rand.New(rand.NewSource(150))) {
		wrong := withPulses(right, 0, nil)
		noForm := withPulses(right, len(right.Pulses)-1, filled(len(right.Pulses[0]), 9))
		for _, f := range []impl.Frame{right, wrong, noForm} {
			for at := range f.Lows {
				for _, v := range append(beyond(indexEnd), beyond(coefEnd)...) {
					wantNoFrame(t, withLow(f, at, v), impl.ErrRange)
				}
			}
			for at := range f.Gains {
				for _, v := range append([]int64{-1, -2, -valueEnd, valueEnd + 1, valueEnd + 2, coefEnd, coefEnd + 1, 1 << 32, 1<<32 + 1, -1 << 32}, farNumbers...) {
					wantNoFrame(t, withGain(f, at, v), impl.ErrRange)
				}
			}
		}
	}
}

// TestFramePulsesFaults: pulses of a wrong length, and those of another number, in each band; of two bands the first one is told.
func TestFramePulsesFaults(t *testing.T) {
	for _, right := range framesFor(rand.New(rand.NewSource(151))) {
		k, dim := maskPulses[right.Mask], len(right.Pulses[0])
		var lengths, forms [][]int64
		for n := range 10 {
			if n != dim {
				lengths = append(lengths, filled(n, 0), filled(n, k), filled(n, 9))
			}
			if n != dim && n > 0 {
				lengths = append(lengths, withAt(filled(n, 0), n-1, k), withAt(filled(n, 0), 0, -k), filled(n, math.MinInt64))
			}
		}
		for other := range int64(lastPulses + 2) {
			if other != k {
				forms = append(forms, withAt(filled(dim, 0), 0, other), withAt(filled(dim, 0), dim-1, -other))
			}
		}
		forms = append(forms, filled(dim, k), filled(dim, math.MinInt64), withAt(filled(dim, math.MinInt64), 1, k), withAt(filled(dim, 0), 1, math.MaxInt64), withAt(filled(dim, 0), 0, k+1<<32))
		for i := range right.Pulses {
			for _, list := range lengths {
				wantNoFrame(t, withPulses(right, i, list), impl.ErrMany)
			}
			for _, list := range forms {
				wantNoFrame(t, withPulses(right, i, list), impl.ErrForm)
			}
			for at, v := range right.Pulses[i] {
				wantNoFrame(t, withPulses(right, i, withAt(right.Pulses[i], at, v+1)), impl.ErrForm)
				wantNoFrame(t, withPulses(right, i, withAt(right.Pulses[i], at, v-1)), impl.ErrForm)
				wantCentral(t, withPulses(right, i, withAt(right.Pulses[i], at, -v)))
			}
		}
		if len(right.Pulses) < 2 {
			continue
		}
		for _, length := range lengths {
			for _, form := range forms {
				wantNoFrame(t, withPulses(withPulses(right, 0, length), 1, form), impl.ErrMany)
				wantNoFrame(t, withPulses(withPulses(right, 0, form), 1, length), impl.ErrForm)
			}
		}
	}
}

// TestFrameFaultsAny: right frames with some faults of any kind, against the codes in the chapter's order; all codes are met.
func TestFrameFaultsAny(t *testing.T) {
	r := rand.New(rand.NewSource(152))
	seen := map[int64]int{}
	for range 60000 {
		f := anyFrame(r)
		for range r.Intn(4) {
			f = spoilt(r, f)
		}
		seen[wantFrame(t, f)]++
	}
	if len(seen) != 4 || min(seen[impl.OK], seen[impl.ErrForm], seen[impl.ErrMany], seen[impl.ErrRange]) < 3000 {
		t.Error(seen)
	}
}

// spoilt is a copy of f in which one thing is wrong, or may be.
func spoilt(r *rand.Rand, f impl.Frame) impl.Frame {
	f = frameCopy(f)
	pick := func(list []int64) int64 { return list[r.Intn(len(list))] }
	switch r.Intn(20) {
	case 0:
		f.Number = pick(noNumbers)
	case 1:
		f.Size = pick([]int64{4, 8, 16, 0, 5, 32})
	case 2:
		f.Rung = pick(noRungs)
	case 3:
		f.Rung = r.Int63n(lastRung + 1)
	case 4:
		f.Mask = r.Int63n(lastMask+3) - 1
	case 5:
		f.Spread = r.Int63n(lastSpread+3) - 1
	case 6:
		f.Lows = anyList(r, r.Intn(10), indexEnd+10)
	case 7:
		f.Gains = anyList(r, r.Intn(4), valueEnd)
	case 8:
		f.Pulses = slices.Repeat([][]int64{withAt(filled(2, 0), r.Intn(2), 8)}, r.Intn(4))
	case 9, 10:
		if len(f.Lows) > 0 {
			f.Lows[r.Intn(len(f.Lows))] = pick(append(besides(indexEnd, -indexEnd, 0), farNumbers...))
		}
	case 11, 12:
		if len(f.Gains) > 0 {
			f.Gains[r.Intn(len(f.Gains))] = pick(append(besides(valueEnd, 0), farNumbers...))
		}
	default:
		if len(f.Pulses) > 0 {
			others := [][]int64{{8, 0}, {0, -6}, {4, 0, 0, 0}, {2, 0}, {0, 0, -1, 1}, nil, {1}, {2, 2, 2, 2}, anyList(r, 4, 3), anyList(r, 2, 1<<62)}
			f.Pulses[r.Intn(len(f.Pulses))] = others[r.Intn(len(others))]
		}
	}
	return f
}

// TestMakeFaults: each argument just outside, and which code is told where several would be so.
func TestMakeFaults(t *testing.T) {
	r := rand.New(rand.NewSource(153))
	for _, n := range blockLengths {
		size, coefs := int64(n), blockWithMask(r, n, 1, 100)
		wrong := [][]int64{coefs, nil, {}, coefs[1:], append(slices.Clone(coefs), 0), withAt(coefs, 0, coefEnd+1), filled(n, math.MinInt64), filled(n+1, math.MaxInt64)}
		for _, list := range wrong {
			for _, number := range noNumbers {
				wantNotMade(t, size, number, list, 7, 1, impl.ErrRange)
				wantNotMade(t, 5, number, list, -1, 3, impl.ErrRange)
			}
			for _, none := range noSizes {
				wantNotMade(t, none, 7, list, 7, 1, impl.ErrRange)
				wantNotMade(t, none, 7, filled(int(min(max(none, 0), 99)), 0), lastRung+1, -1, impl.ErrRange)
			}
			want := int64(impl.ErrRange)
			if len(list) != n {
				want = impl.ErrMany
			}
			for _, rung := range noRungs {
				wantNotMade(t, size, 7, list, rung, 1, want)
			}
			for _, spread := range noSpreads {
				wantNotMade(t, size, 7, list, 7, spread, want)
				wantNotMade(t, size, 7, list, 0, spread, want)
			}
		}
		for other := range 40 {
			if other != n {
				for _, v := range []int64{0, 1, coefEnd, coefEnd + 1} {
					wantNotMade(t, size, 0, filled(other, v), 20, 0, impl.ErrMany)
				}
			}
		}
		for at := range n {
			for _, v := range beyond(coefEnd) {
				wantNotMade(t, size, lastNumber, withAt(coefs, at, v), 20, 2, impl.ErrRange)
			}
		}
		for _, number := range []int64{0, 1, lastNumber - 1, lastNumber} {
			wantNotMade(t, size, number, coefs, 20, 2, impl.OK)
		}
	}
}

// TestMakeFaultsAny: right and wrong arguments side by side; all codes are met.
func TestMakeFaultsAny(t *testing.T) {
	r := rand.New(rand.NewSource(154))
	seen := map[int64]int{}
	for range 20000 {
		size := []int64{4, 4, 8, 8, 16, 16, 5, 0}[r.Intn(8)]
		coefs := anyList(r, []int{4, 8, 16, int(size), int(size), r.Intn(20)}[r.Intn(6)], []int64{50, 50000, coefEnd, coefEnd + 3, 1 << 40}[r.Intn(5)])
		number := []int64{0, r.Int63n(lastNumber + 1), r.Int63n(lastNumber + 1), lastNumber, lastNumber + 1, -1}[r.Intn(6)]
		seen[wantMade(t, size, number, coefs, r.Int63n(lastRung+5)-2, r.Int63n(lastSpread+4)-1).Code]++
	}
	if len(seen) != 3 || min(seen[impl.OK], seen[impl.ErrMany], seen[impl.ErrRange]) < 1500 {
		t.Error(seen)
	}
}

// otherFrames differ from f in one field alone, each field in its turn; no two of them are the same.
func otherFrames(f impl.Frame) []impl.Frame {
	list := make([]impl.Frame, 5)
	for i := range list {
		list[i] = frameCopy(f)
	}
	list[0].Number++
	list[1].Size++
	list[2].Rung++
	list[3].Mask++
	list[4].Spread++
	for i, v := range f.Lows {
		list = append(list, withLow(f, i, v+1), withLow(f, i, v-1), withLow(f, i, v+1<<32))
	}
	for i, v := range f.Gains {
		list = append(list, withGain(f, i, v+1), withGain(f, i, v-1), withGain(f, i, v+1<<32))
	}
	for i, pulses := range f.Pulses {
		for at, v := range pulses {
			list = append(list, withPulses(f, i, withAt(pulses, at, v+1)), withPulses(f, i, withAt(pulses, at, v+1<<32)))
		}
		list = append(list, withPulses(f, i, nil), withPulses(f, i, append(slices.Clone(pulses), 0)))
		if len(pulses) > 1 {
			list = append(list, withPulses(f, i, pulses[:len(pulses)-1]))
		}
	}
	few, many, none := [3]impl.Frame{f, f, f}, [3]impl.Frame{f, f, f}, [3]impl.Frame{f, f, f}
	few[0].Lows, few[1].Gains, few[2].Pulses = f.Lows[:len(f.Lows)-1], f.Gains[:len(f.Gains)-1], f.Pulses[:len(f.Pulses)-1]
	many[0].Lows, many[1].Gains, many[2].Pulses = append(slices.Clone(f.Lows), 0), append(slices.Clone(f.Gains), 0), append(slices.Clone(f.Pulses), nil)
	none[0].Lows, none[1].Gains, none[2].Pulses = nil, nil, nil
	return slices.Concat(list, few[:], many[:], none[:])
}

// wantSameByText asks any two of a list, both ways round: they are the same if their texts are.
func wantSameByText(t *testing.T, list []impl.Frame) {
	t.Helper()
	texts := make([]string, len(list))
	for i, f := range list {
		texts[i] = frameText(f)
	}
	for i, a := range list {
		for j, b := range list {
			if got := impl.SameFrames(a, b); got != (texts[i] == texts[j]) {
				t.Errorf("SameFrames %s, %s: got %v", texts[i], texts[j], got)
			}
		}
	}
}

// TestSameFrames: right frames, and what differs from them in one field.
func TestSameFrames(t *testing.T) {
	r := rand.New(rand.NewSource(155))
	var all []impl.Frame
	for _, f := range framesFor(r) {
		others := otherFrames(f)
		for _, other := range others {
			if impl.SameFrames(f, other) || impl.SameFrames(other, f) {
				t.Errorf("%v and %v are not the same", f, other)
			}
			if !impl.SameFrames(other, frameCopy(other)) {
				t.Errorf("%v and its copy are the same", other)
			}
		}
		wantSameByText(t, append(others, f, frameCopy(f)))
		all = append(all, f, frameCopy(f))
	}
	for range 60 {
		all = append(all, anyFrame(r))
	}
	wantSameByText(t, all)
}

// TestSameFramesThatAreNone: the same numbers in other fields, in other lists or in other pulses; nil and empty lists.
func TestSameFramesThatAreNone(t *testing.T) {
	list := []impl.Frame{{}, {Lows: []int64{}}, {Gains: []int64{}, Pulses: [][]int64{}}, {Pulses: [][]int64{nil}}, {Pulses: [][]int64{{}}}, {Pulses: [][]int64{nil, {}}}, {Pulses: [][]int64{{}, nil}}, {Pulses: [][]int64{nil, nil, nil}}}
	for _, v := range []int64{1, 2, -1, math.MinInt64, math.MaxInt64} {
		list = append(list, impl.Frame{Number: v}, impl.Frame{Size: v}, impl.Frame{Rung: v}, impl.Frame{Mask: v}, impl.Frame{Spread: v}, impl.Frame{Lows: []int64{v}}, impl.Frame{Gains: []int64{v}}, impl.Frame{Pulses: [][]int64{{v}}})
		list = append(list, impl.Frame{Lows: []int64{v, 0}}, impl.Frame{Lows: []int64{0, v}}, impl.Frame{Lows: []int64{v}, Gains: []int64{0}}, impl.Frame{Gains: []int64{v, 0}}, impl.Frame{Gains: []int64{0, v}})
		list = append(list, impl.Frame{Pulses: [][]int64{{v, 0}}}, impl.Frame{Pulses: [][]int64{{v}, {0}}}, impl.Frame{Pulses: [][]int64{{}, {v, 0}}}, impl.Frame{Pulses: [][]int64{{v, 0}, nil}}, impl.Frame{Pulses: [][]int64{{0, v}}}, impl.Frame{Pulses: [][]int64{{0}, {v}}})
		list = append(list, impl.Frame{Number: v, Size: v}, impl.Frame{Size: v, Rung: v}, impl.Frame{Rung: v, Mask: v}, impl.Frame{Mask: v, Spread: v}, impl.Frame{Number: v, Spread: v}, impl.Frame{Number: v, Size: v, Rung: v, Mask: v, Spread: v, Lows: []int64{v}, Gains: []int64{v}, Pulses: [][]int64{{v}}})
	}
	wantSameByText(t, list)
	for _, f := range framesFor(rand.New(rand.NewSource(156))) {
		wantSameByText(t, append(append(wrongLists(f), wrongLists(f)...), f))
	}
}

// guardedFrame has memory behind the ends of all its lists that nobody may touch either, and tells all of it.
func guardedFrame(f impl.Frame) (inside impl.Frame, all func() string) {
	inside = f
	wholes := make([][]int64, 2+len(f.Pulses))
	inside.Lows, wholes[0] = guarded(f.Lows)
	inside.Gains, wholes[1] = guarded(f.Gains)
	pulses := append(slices.Clone(f.Pulses), []int64{77, 78, 79}, nil)
	for i, list := range f.Pulses {
		pulses[i], wholes[i+2] = guarded(list)
	}
	inside.Pulses = pulses[:len(f.Pulses)]
	return inside, func() string { return fmt.Sprint(wholes, pulses) }
}

// frameLists are all lists of numbers that a frame has.
func frameLists(f impl.Frame) [][]int64 {
	return append([][]int64{f.Lows, f.Gains}, f.Pulses...)
}

// wantFrameStays asks all of a frame, and writes over the answers: it stays, whether it is right or wrong.
func wantFrameStays(t *testing.T, f impl.Frame) {
	t.Helper()
	inside, all := guardedFrame(f)
	before := all()
	code := impl.FrameFault(inside)
	wantOwn(t, func() []int64 { return impl.CentralCoefs(inside).List }, slices.Equal, "CentralCoefs")
	wantOwn(t, func() []int64 { return impl.CentralBounds(inside).List }, slices.Equal, "CentralBounds")
	same := impl.SameFrames(inside, inside) && impl.SameFrames(inside, f) && impl.SameFrames(f, inside)
	if after := all(); after != before || !same || impl.FrameFault(inside) != code {
		t.Errorf("%s became %s", before, after)
	}
}

func TestFramesShareNothing(t *testing.T) {
	r := rand.New(rand.NewSource(157))
	for _, f := range framesFor(r) {
		wantFrameStays(t, f)
		for _, other := range append(wrongLists(f), otherFrames(f)...) {
			wantFrameStays(t, other)
		}
	}
	for range 500 {
		f := anyFrame(r)
		wantFrameStays(t, f)
		wantFrameStays(t, spoilt(r, f))
	}
}

// TestMakingSharesNothing: of coefficients that are right and of wrong ones; bands that are alike have pulses that are alike, and are not the same memory.
func TestMakingSharesNothing(t *testing.T) {
	r := rand.New(rand.NewSource(158))
	for _, n := range blockLengths {
		for range 300 {
			rung, spread := r.Int63n(lastRung+3)-1, r.Int63n(lastSpread+2)
			frameOf := func(coefs []int64) impl.Frame { return impl.MakeFrame(int64(n), 7, coefs, rung, spread).Frame }
			ask := func(coefs []int64) [][]int64 {
				one, two := frameOf(coefs), frameOf(coefs)
				return slices.Concat(frameLists(one), frameLists(two), [][]int64{impl.CentralCoefs(one).List, impl.CentralBounds(one).List, impl.CentralCoefs(two).List})
			}
			coefs := slices.Concat(anyList(r, n/2, coefEnd), anyList(r, n/2, coefEnd/4))
			for _, list := range [][]int64{coefs, filled(n, 0), filled(n, 100), withAt(coefs, r.Intn(n), coefEnd+1), coefs[:r.Intn(n)], anyList(r, n+1+r.Intn(9), coefEnd)} {
				wantStay(t, list, ask, "MakeFrame")
				wantOwn(t, func() [][]int64 { return frameOf(list).Pulses }, func(a [][]int64, b [][]int64) bool { return slices.EqualFunc(a, b, slices.Equal) }, "the Pulses of MakeFrame")
			}
		}
	}
}

// TestFramesOfOneList: where all lists of a frame are the same memory, the answers are as if they were not.
func TestFramesOfOneList(t *testing.T) {
	r := rand.New(rand.NewSource(159))
	for range 3000 {
		f := anyFrame(r)
		dim := len(f.Pulses[0])
		list := slices.Concat(f.Pulses[0], filled(len(f.Lows), 0))
		f.Lows, f.Gains = list[:len(f.Lows)], list[:len(f.Gains)]
		for i := range f.Pulses {
			f.Pulses[i] = list[:dim]
		}
		before := slices.Clone(list)
		wantFrame(t, f)
		coefs, bounds := impl.CentralCoefs(f).List, impl.CentralBounds(f).List
		clear(coefs[:cap(coefs)])
		clear(bounds[:cap(bounds)])
		if !slices.Equal(list, before) {
			t.Fatalf("%v became %v", before, list)
		}
	}
}

// frameCall is what is asked of all functions of the chapter together.
type frameCall struct {
	size, number, rung, spread int64
	coefs                      []int64
	frame                      impl.Frame
}

func (c frameCall) answers() ([8]int64, []impl.IntsResult) {
	made := impl.MakeFrame(c.size, c.number, c.coefs, c.rung, c.spread)
	f := made.Frame
	codes := [8]int64{impl.FrameFault(c.frame), made.Code, f.Number, f.Size, f.Rung, f.Mask, f.Spread}
	if impl.SameFrames(c.frame, f) {
		codes[7] = 1
	}
	lists := []impl.IntsResult{impl.CentralCoefs(c.frame), impl.CentralBounds(c.frame), impl.CentralCoefs(f), impl.CentralBounds(f)}
	for _, list := range frameLists(f) {
		lists = append(lists, impl.IntsResult{List: list})
	}
	return codes, lists
}

// frameCalls are right ones and wrong ones.
func frameCalls() []frameCall {
	r := rand.New(rand.NewSource(160))
	var calls []frameCall
	for range 150 {
		f := anyFrame(r)
		coefs := impl.CentralCoefs(f).List
		made := impl.MakeFrame(f.Size, f.Number, coefs, f.Rung, f.Spread)
		calls = append(calls, frameCall{f.Size, f.Number, f.Rung, f.Spread, coefs, f}, frameCall{f.Size, f.Number, f.Rung, f.Spread, coefs, made.Frame})
		calls = append(calls, frameCall{f.Size, f.Number, f.Rung + r.Int63n(3) - 1, f.Spread, slices.Concat(coefs[:2], anyList(r, len(coefs)-2, coefEnd)), spoilt(r, f)})
		calls = append(calls, frameCall{f.Size, lastNumber + 1, f.Rung, f.Spread, coefs, spoilt(r, spoilt(r, f))}, frameCall{f.Size, 0, f.Rung, f.Spread, coefs[1:], wrongLists(f)[r.Intn(4)]})
	}
	return calls
}

// TestFramesHangOnArguments: whatever is asked between, in whatever order, and beside it.
func TestFramesHangOnArguments(t *testing.T) {
	wantSameAnswers(t, frameCalls(), frameCall.answers)
}
