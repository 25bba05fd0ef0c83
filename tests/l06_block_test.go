package tests

import (
	"math/rand"
	"slices"
	"sync"
	"testing"

	"loop.example/g00657/impl"
)

// headEnd, blockEnd and coefEnd are the document's MaxHead, MaxBlock and MaxCoef.
const (
	headEnd  = int64(1) << 30
	blockEnd = int64(1) << 16
	coefEnd  = int64(1) << 24
)

var (
	halvedLengths = []int{2, 4, 8, 16}
	blockLengths  = []int{4, 8, 16}
)

// halvesOf goes by the document's words, with the functions of the chapter ahead, which let in far more than this one.
func halvesOf(list []int64) (s []int64, d []int64) {
	n := len(list)
	for i := range n / 2 {
		mixed := impl.MixPair(list[i], list[n-1-i])
		s, d = append(s, mixed.A), append(d, mixed.B)
	}
	for i := range n / 4 {
		turned := impl.TurnPair(int64(n), int64(i), d[i], d[n/2-1-i])
		d[i], d[n/2-1-i] = turned.A, turned.B
	}
	return s, d
}

// coefficientAt goes down to one coefficient alone: the lowest binary digit of its place tells of which half it is,
// and the others its place among that half's coefficients.
func coefficientAt(list []int64, place int) int64 {
	for len(list) > 1 {
		s, d := halvesOf(list)
		list = s
		if place%2 == 1 {
			list = d
		}
		place /= 2
	}
	return list[0]
}

func coefficientsOf(list []int64) []int64 {
	var out []int64
	for place := range list {
		out = append(out, coefficientAt(list, place))
	}
	return out
}

// allWithin: no number of list is beyond end, on either side of 0.
func allWithin(list []int64, end int64) bool {
	return slices.Min(list) >= -end && slices.Max(list) <= end
}

// signed has n numbers far from 0 by v, above or below it by the binary digits of signs.
func signed(n int, signs int, v int64) []int64 {
	out := filled(n, v)
	for i := range out {
		if signs>>i&1 == 1 {
			out[i] = -v
		}
	}
	return out
}

// anyList is as often near 0 as far from it, and never beyond end.
func anyList(r *rand.Rand, n int, end int64) []int64 {
	out := make([]int64, n)
	reach := min(end, int64(1)<<r.Intn(34))
	for i := range out {
		out[i] = r.Int63n(2*reach+1) - reach
	}
	return out
}

// beyond are the first numbers that are too far from 0, and far ones.
func beyond(end int64) []int64 {
	return append([]int64{end + 1, -end - 1, end + 2, -end - 2, 2 * end, -2 * end}, farNumbers...)
}

func wantHalves(t *testing.T, got impl.HalvesResult, code int64, s []int64, d []int64, what string, args ...any) {
	t.Helper()
	if got.Code != code || !slices.Equal(got.S, s) || !slices.Equal(got.D, d) {
		t.Errorf("%s %v: got %+v, want code %d, %v and %v", what, args, got, code, s, d)
	}
}

// wantHalved holds the halves of list against the model, and unites them again.
func wantHalved(t *testing.T, list []int64) {
	t.Helper()
	s, d := halvesOf(list)
	wantHalves(t, impl.HalveList(list), impl.OK, s, d, "HalveList", list)
	if allWithin(s, headEnd) && allWithin(d, headEnd) {
		wantInts(t, impl.UniteHalves(s, d), impl.OK, list, "UniteHalves", s, d)
	} else {
		wantInts(t, impl.UniteHalves(s, d), impl.ErrRange, nil, "UniteHalves, too far", s, d)
	}
}

// wantUnited asks whether s and d are the halves of what is told, which may be farther from 0 than HalveList lets in.
func wantUnited(t *testing.T, s []int64, d []int64) {
	t.Helper()
	got := impl.UniteHalves(s, d)
	if got.Code != impl.OK || len(got.List) != 2*len(s) {
		t.Errorf("UniteHalves %v, %v: got %+v", s, d, got)
		return
	}
	wantHalves(t, modelHalves(got.List), impl.OK, s, d, "halves of UniteHalves", got.List)
	if allWithin(got.List, headEnd) {
		wantHalves(t, impl.HalveList(got.List), impl.OK, s, d, "HalveList of UniteHalves", got.List)
	} else {
		wantHalves(t, impl.HalveList(got.List), impl.ErrRange, nil, nil, "HalveList, too far", got.List)
	}
}

func modelHalves(list []int64) impl.HalvesResult {
	s, d := halvesOf(list)
	return impl.HalvesResult{S: s, D: d}
}

// wantSpread holds the coefficients of list against the model, and gathers them again.
func wantSpread(t *testing.T, list []int64) {
	t.Helper()
	coefs := coefficientsOf(list)
	wantInts(t, impl.SpreadBlock(list), impl.OK, coefs, "SpreadBlock", list)
	wantInts(t, impl.GatherBlock(coefs), impl.OK, list, "GatherBlock", coefs)
}

// wantGathered asks whether coefs are the coefficients of what is told, and tells whether that is a block that can be spread.
func wantGathered(t *testing.T, coefs []int64) bool {
	t.Helper()
	got := impl.GatherBlock(coefs)
	if got.Code != impl.OK || len(got.List) != len(coefs) {
		t.Errorf("GatherBlock %v: got %+v", coefs, got)
		return false
	}
	if again := coefficientsOf(got.List); !slices.Equal(again, coefs) {
		t.Errorf("GatherBlock %v: got %v, which has the coefficients %v", coefs, got.List, again)
	}
	if !allWithin(got.List, blockEnd) {
		wantInts(t, impl.SpreadBlock(got.List), impl.ErrRange, nil, "SpreadBlock, too far", got.List)
		return false
	}
	wantInts(t, impl.SpreadBlock(got.List), impl.OK, coefs, "SpreadBlock of GatherBlock", got.List)
	return true
}

func TestBlockConstants(t *testing.T) {
	if impl.MaxBlock != blockEnd || impl.MaxCoef != coefEnd || impl.MaxHead != headEnd {
		t.Error(impl.MaxBlock, impl.MaxCoef, impl.MaxHead)
	}
}

// TestHalveExamples are worked out by hand.
func TestHalveExamples(t *testing.T) {
	rows := []struct{ list, s, d []int64 }{
		{[]int64{5, 2}, []int64{3}, []int64{3}},
		{[]int64{2, 5}, []int64{3}, []int64{-3}},
		{[]int64{-5, -2}, []int64{-4}, []int64{-3}},
		{[]int64{headEnd, -headEnd}, []int64{0}, []int64{2 * headEnd}},
		{[]int64{8, 8, 8, 8}, []int64{8, 8}, []int64{0, 0}},
		{[]int64{9, 0, 0, 0}, []int64{4, 0}, []int64{9, 2}},                                     // 0 and 9 * 200 / 1024; 2 * 101 / 1024 is none
		{[]int64{1, 2, 3, 4}, []int64{2, 2}, []int64{-3, -2}},                                   // the pairs 1, 4 and 2, 3; -3, -1: less by 0, more by -1, less by 0
		{[]int64{1024, 0, 0, 0}, []int64{512, 0}, []int64{1004, 200}},                           // the turn 0 of the size 4
		{[]int64{0, 1024, 0, 0}, []int64{0, 512}, []int64{-200, 1004}},                          // the same turn, the other number
		{[]int64{0, 0, 0, 1024}, []int64{512, 0}, []int64{-1004, -200}},                         // the last is taken from the first
		{[]int64{1024, 0, 0, 0, 0, 0, 0, 0}, []int64{512, 0, 0, 0}, []int64{1019, 0, 0, 100}},   // 5 are 100 * 50 / 1024
		{[]int64{0, 1024, 0, 0, 0, 0, 0, 0}, []int64{0, 512, 0, 0}, []int64{0, 980, 297, 0}},    // 44 are 297 * 152 / 1024
		{[]int64{0, 0, 1024, 0, 0, 0, 0, 0}, []int64{0, 0, 512, 0}, []int64{0, -297, 980, 0}},   // less by 152, less by 44, less by 145
		{[]int64{0, 0, 0, 0, 0, 0, 0, -1024}, []int64{-512, 0, 0, 0}, []int64{1019, 0, 0, 100}}, // 0 less -1024 is mixed as 1024 is, but -1024 and half of that are -512
	}
	for _, r := range rows {
		wantHalves(t, impl.HalveList(r.list), impl.OK, r.s, r.d, "HalveList", r.list)
		if allWithin(r.d, headEnd) {
			wantInts(t, impl.UniteHalves(r.s, r.d), impl.OK, r.list, "UniteHalves", r)
		}
	}
	list := withAt(filled(16, 0), 3, 1024) // 3 of 16: the turn 3 with the number 4 of D
	wantHalves(t, impl.HalveList(list), impl.OK, withAt(filled(8, 0), 3, 512), withAt(withAt(filled(8, 0), 3, 964), 4, 345), "HalveList", list)
}

// TestWhichPairsAreTurned: one number of D alone is not 0, and is turned with the one that is as far from the other end.
func TestWhichPairsAreTurned(t *testing.T) {
	turns := map[int][]int{4: {0, 0}, 8: {0, 1, 1, 0}, 16: {0, 1, 2, 3, 3, 2, 1, 0}}
	for n, names := range turns {
		for at, name := range names {
			mate := n/2 - 1 - at
			row := rowOf(n, name)
			for _, v := range []int64{4096, -4096, 999999, 7} {
				d := filled(n/2, 0)
				if at < mate {
					turned := aheadOf(row, v, 0)
					d[at], d[mate] = turned.A, turned.B
				} else {
					turned := aheadOf(row, 0, v)
					d[mate], d[at] = turned.A, turned.B
				}
				s := withAt(filled(n/2, 0), at, v>>1)
				list := withAt(filled(n, 0), at, v)
				wantHalves(t, impl.HalveList(list), impl.OK, s, d, "HalveList", list)
				wantInts(t, impl.UniteHalves(s, d), impl.OK, list, "UniteHalves", s, d)
			}
		}
	}
}

// TestListOfTwo: all small ones; no pair of D is turned.
func TestListOfTwo(t *testing.T) {
	for a := int64(-60); a <= 60; a++ {
		for b := int64(-60); b <= 60; b++ {
			d := a - b
			wantHalves(t, impl.HalveList([]int64{a, b}), impl.OK, []int64{b + d>>1}, []int64{d}, "HalveList", a, b)
			second := a - b>>1
			wantInts(t, impl.UniteHalves([]int64{a}, []int64{b}), impl.OK, []int64{second + b, second}, "UniteHalves", a, b)
			wantHalved(t, []int64{a, b})
			wantUnited(t, []int64{a}, []int64{b})
		}
	}
}

// smallLists has all lists of four numbers that are next to 0.
func smallLists() [][]int64 {
	var out [][]int64
	for i := range 5 * 5 * 5 * 5 {
		list := make([]int64, 4)
		for at := range list {
			list[at] = int64(i%5) - 2
			i /= 5
		}
		out = append(out, list)
	}
	return out
}

func TestHalvesSmall(t *testing.T) {
	for _, list := range smallLists() {
		wantHalved(t, list)
		wantUnited(t, list[:2], list[2:])
	}
}

func TestHalvesAny(t *testing.T) {
	r := rand.New(rand.NewSource(61))
	for _, n := range halvedLengths {
		for range 4000 {
			wantHalved(t, anyList(r, n, headEnd))
			wantUnited(t, anyList(r, n/2, headEnd), anyList(r, n/2, headEnd))
		}
	}
}

// TestHalvesEdges: each number is at an end, with all signs.
func TestHalvesEdges(t *testing.T) {
	far := 0
	for _, n := range halvedLengths {
		for signs := range 1 << n {
			for _, end := range []int64{headEnd, headEnd - 1} {
				list := signed(n, signs, end)
				wantHalved(t, list)
				wantUnited(t, list[:n/2], list[n/2:])
				if !allWithin(impl.UniteHalves(list[:n/2], list[n/2:]).List, headEnd) {
					far++
				}
			}
		}
	}
	if far == 0 {
		t.Error("nothing that was united left the bounds")
	}
}

func TestHalveFaults(t *testing.T) {
	wantHalves(t, impl.HalveList(nil), impl.ErrMany, nil, nil, "HalveList of nil")
	for n := range 70 {
		if slices.Contains(halvedLengths, n) {
			continue
		}
		for _, v := range append([]int64{0, 1, headEnd}, beyond(headEnd)...) {
			wantHalves(t, impl.HalveList(filled(n, v)), impl.ErrMany, nil, nil, "HalveList", n, v)
		}
	}
	for _, n := range halvedLengths {
		for at := range n {
			for _, v := range beyond(headEnd) {
				for _, other := range []int64{0, headEnd, -headEnd, v} {
					list := withAt(filled(n, other), at, v)
					wantHalves(t, impl.HalveList(list), impl.ErrRange, nil, nil, "HalveList", list)
				}
			}
		}
	}
}

// TestUniteMany: how many there are is asked of both ahead of what they are.
func TestUniteMany(t *testing.T) {
	right := []int{1, 2, 4, 8}
	for ns := range 20 {
		for nd := range 20 {
			if ns == nd && slices.Contains(right, ns) {
				continue
			}
			for _, v := range []int64{0, headEnd + 1, farNumbers[0]} {
				wantInts(t, impl.UniteHalves(filled(ns, v), filled(nd, 0)), impl.ErrMany, nil, "UniteHalves", ns, nd, v)
				wantInts(t, impl.UniteHalves(filled(ns, 0), filled(nd, v)), impl.ErrMany, nil, "UniteHalves", ns, nd, v)
			}
		}
	}
	for _, n := range append([]int{16, 32, 64, 1000}, right...) {
		wantInts(t, impl.UniteHalves(filled(n, 0), nil), impl.ErrMany, nil, "UniteHalves with nil", n)
		wantInts(t, impl.UniteHalves(nil, filled(n, 0)), impl.ErrMany, nil, "UniteHalves of nil", n)
		wantInts(t, impl.UniteHalves(filled(n, 0), filled(n+1, 0)), impl.ErrMany, nil, "UniteHalves", n)
	}
	wantInts(t, impl.UniteHalves(nil, nil), impl.ErrMany, nil, "UniteHalves of nothing")
}

func TestUniteRange(t *testing.T) {
	for _, n := range []int{1, 2, 4, 8} {
		for at := range n {
			for _, v := range beyond(headEnd) {
				for _, other := range []int64{0, headEnd, -headEnd, v} {
					wrong, rest := withAt(filled(n, other), at, v), filled(n, other)
					wantInts(t, impl.UniteHalves(wrong, rest), impl.ErrRange, nil, "UniteHalves", wrong, rest)
					wantInts(t, impl.UniteHalves(rest, wrong), impl.ErrRange, nil, "UniteHalves", rest, wrong)
				}
			}
		}
	}
}

// TestSpreadExamples are worked out by hand.
func TestSpreadExamples(t *testing.T) {
	rows := []struct{ list, coefs []int64 }{
		{[]int64{8, 8, 8, 8}, []int64{8, 0, 0, 0}},
		{[]int64{9, 0, 0, 0}, []int64{2, 5, 4, 7}},            // S is 4, 0 and has 2 and 4; D is 9, 2 and has 5 and 7
		{[]int64{1, 2, 3, 4}, []int64{2, -3, 0, -1}},          // S is 2, 2; D is -3, -2
		{[]int64{1024, 0, 0, 0}, []int64{256, 602, 512, 804}}, // S is 512, 0; D is 1004, 200
		{[]int64{-7, -7, -7, -7, -7, -7, -7, -7}, []int64{-7, 0, 0, 0, 0, 0, 0, 0}},
		{[]int64{1024, 0, 0, 0, 0, 0, 0, 0}, []int64{128, 279, 301, 540, 256, 559, 402, 722}}, // S is 512, 0, 0, 0, with the halves 256, 0 and 502, 100; D is 1019, 0, 0, 100, with 559, 0 and 901, 179
	}
	for _, r := range rows {
		wantInts(t, impl.SpreadBlock(r.list), impl.OK, r.coefs, "SpreadBlock", r.list)
		wantInts(t, impl.GatherBlock(r.coefs), impl.OK, r.list, "GatherBlock", r.coefs)
	}
	for _, n := range blockLengths {
		for _, v := range []int64{0, 1, -1, blockEnd, -blockEnd} {
			level := withAt(filled(n, 0), 0, v)
			wantInts(t, impl.SpreadBlock(filled(n, v)), impl.OK, level, "SpreadBlock of a level", n, v)
			wantInts(t, impl.GatherBlock(level), impl.OK, filled(n, v), "GatherBlock of a level", n, v)
		}
	}
}

// TestEvenAndOddPlaces: the coefficients of both halves, each asked by itself, stand by turns.
func TestEvenAndOddPlaces(t *testing.T) {
	r := rand.New(rand.NewSource(62))
	for _, n := range []int{8, 16} {
		for range 500 {
			list := anyList(r, n, blockEnd/4)
			coefs, halves := impl.SpreadBlock(list).List, impl.HalveList(list)
			even, odd := impl.SpreadBlock(halves.S).List, impl.SpreadBlock(halves.D).List
			for i := range n / 2 {
				if coefs[2*i] != even[i] || coefs[2*i+1] != odd[i] {
					t.Errorf("SpreadBlock %v: %v, but its halves tell %v and %v", list, coefs, even, odd)
				}
			}
		}
	}
}

func TestBlocksSmall(t *testing.T) {
	for _, list := range smallLists() {
		wantSpread(t, list)
		wantGathered(t, list)
	}
	for _, n := range blockLengths {
		for at := range n {
			for _, v := range []int64{1, -1, 3, -5, 511, 512, 513, -512, blockEnd, -blockEnd} {
				list := withAt(filled(n, 0), at, v)
				wantSpread(t, list)
				wantGathered(t, list)
			}
		}
	}
}

func TestBlocksAny(t *testing.T) {
	r := rand.New(rand.NewSource(63))
	for _, n := range blockLengths {
		within, far := 0, 0
		for range 1500 {
			wantSpread(t, anyList(r, n, blockEnd))
			if wantGathered(t, anyList(r, n, coefEnd)) {
				within++
			} else {
				far++
			}
		}
		if within == 0 || far == 0 {
			t.Errorf("%d: %d blocks that can be spread, %d that cannot", n, within, far)
		}
	}
}

// TestSpreadEdges: with each number of a block at an end no coefficient is beyond its own end, and all are gathered again.
func TestSpreadEdges(t *testing.T) {
	for _, n := range blockLengths {
		greatest := int64(0)
		for signs := range 1 << n {
			list := signed(n, signs, blockEnd)
			coefs := impl.SpreadBlock(list)
			if coefs.Code != impl.OK || !allWithin(coefs.List, coefEnd) {
				t.Fatalf("SpreadBlock %v: got %+v", list, coefs)
			}
			greatest = max(greatest, slices.Max(coefs.List))
			wantInts(t, impl.GatherBlock(coefs.List), impl.OK, list, "GatherBlock", coefs.List)
			if n < 16 || signs%97 == 0 {
				wantSpread(t, list)
			}
		}
		if greatest <= 2*blockEnd {
			t.Errorf("%d: no coefficient is beyond %d", n, greatest)
		}
	}
}

// TestGatherEdges: with each coefficient at an end the block is far beyond what can be spread, and so is what is between.
// For sixteen of them some of the signs are asked alone.
func TestGatherEdges(t *testing.T) {
	for _, n := range blockLengths {
		farthest := int64(0)
		for signs := 0; signs < 1<<n; signs += 1 + n/16*30 {
			for _, end := range []int64{coefEnd, coefEnd - 1} {
				coefs := signed(n, signs, end)
				wantGathered(t, coefs)
				farthest = max(farthest, slices.Max(impl.GatherBlock(coefs).List))
			}
		}
		if farthest <= 2*coefEnd {
			t.Errorf("%d: what is gathered goes to %d alone", n, farthest)
		}
	}
}

// wantBlockFaults asks ask, which lets in 4, 8 or 16 numbers, such as right has, and none such as wrong has.
func wantBlockFaults(t *testing.T, ask func([]int64) impl.IntsResult, right []int64, wrong []int64, what string) {
	t.Helper()
	wantInts(t, ask(nil), impl.ErrMany, nil, what+" of nil")
	for n := range 70 {
		if slices.Contains(blockLengths, n) {
			continue
		}
		for _, v := range slices.Concat([]int64{0, 1}, right, wrong) {
			wantInts(t, ask(filled(n, v)), impl.ErrMany, nil, what, n, v)
		}
	}
	for _, n := range blockLengths {
		for at := range n {
			for _, v := range wrong {
				for _, other := range slices.Concat([]int64{0, v}, right) {
					list := withAt(filled(n, other), at, v)
					wantInts(t, ask(list), impl.ErrRange, nil, what, list)
				}
			}
			for _, v := range right {
				if got := ask(withAt(filled(n, 0), at, v)); got.Code != impl.OK || len(got.List) != n {
					t.Errorf("%s of %d at %d of %d: got %+v", what, v, at, n, got)
				}
			}
		}
	}
}

// besideEnds are the last numbers that are let in, on both sides of 0.
func besideEnds(end int64) []int64 {
	return []int64{end, -end, end - 1, 1 - end}
}

func TestBlockFaults(t *testing.T) {
	wantBlockFaults(t, impl.SpreadBlock, besideEnds(blockEnd), beyond(blockEnd), "SpreadBlock")
	wantBlockFaults(t, impl.GatherBlock, besideEnds(coefEnd), beyond(coefEnd), "GatherBlock")
}

// wantStay asks with a list behind whose end there is memory, and writes over all of each answer: the list stays as it was.
func wantStay(t *testing.T, list []int64, ask func([]int64) [][]int64, what string) {
	t.Helper()
	inside, whole := guarded(list)
	before := slices.Clone(whole)
	answers := ask(inside)
	if !slices.Equal(whole, before) {
		t.Errorf("%s: %v became %v", what, before, whole)
	}
	for i, answer := range answers {
		told := make([][]int64, len(answers))
		for j := range answers {
			told[j] = slices.Clone(answers[j])
		}
		for k := range answer[:cap(answer)] {
			answer[:cap(answer)][k] ^= -1
		}
		for j := range answers {
			if i != j && !slices.Equal(answers[j], told[j]) {
				t.Errorf("%s: the answers %d and %d share memory", what, i, j)
			}
		}
	}
	if !slices.Equal(whole, before) {
		t.Errorf("%s: an answer shares memory with the argument", what)
	}
}

// blockAnswers has all lists that the chapter's functions tell of one list, and of both its halves.
func blockAnswers(list []int64) [][]int64 {
	halves := impl.HalveList(list)
	half := len(list) / 2
	return [][]int64{
		halves.S, halves.D,
		impl.UniteHalves(list[:half], list[half:]).List,
		impl.UniteHalves(list[:half], list[:half]).List,
		impl.SpreadBlock(list).List,
		impl.GatherBlock(list).List,
	}
}

func TestBlocksShareNothing(t *testing.T) {
	r := rand.New(rand.NewSource(64))
	for n := range 20 {
		for _, end := range []int64{100, blockEnd, coefEnd, headEnd, 4 * headEnd} {
			list := anyList(r, n, end)
			wantStay(t, list, blockAnswers, "blocks")
			wantStay(t, list, func(list []int64) [][]int64 { return append(blockAnswers(list), blockAnswers(list)...) }, "blocks twice")
			if n > 0 {
				wantStay(t, withAt(list, n-1, 4*headEnd), blockAnswers, "blocks with a fault")
			}
		}
	}
}

// TestBlocksHangOnArguments: the same arguments have the same answers, whatever is asked between, in whatever order, and beside it.
func TestBlocksHangOnArguments(t *testing.T) {
	r := rand.New(rand.NewSource(65))
	var lists [][]int64
	var first [][][]int64
	for n := range 18 {
		for _, end := range []int64{10, blockEnd, 2 * blockEnd, coefEnd, 2 * headEnd} {
			lists = append(lists, anyList(r, n, end))
			first = append(first, blockAnswers(lists[len(lists)-1]))
		}
	}
	var group sync.WaitGroup
	for seed := range int64(4) {
		group.Go(func() {
			for _, i := range rand.New(rand.NewSource(seed)).Perm(len(lists)) {
				if got := blockAnswers(lists[i]); !slices.EqualFunc(got, first[i], slices.Equal) {
					t.Errorf("%v: first %v, then %v", lists[i], first[i], got)
				}
			}
		})
	}
	group.Wait()
}
