package tests

import (
	"math/big"
	"math/rand"
	"slices"
	"testing"

	"loop.example/g00657/impl"
)

// boundEnd is the document's MaxBound; topEnd is its MaxTop.
const (
	boundEnd = int64(1) << 26
	topEnd   = int64(1) << 40
)

// boundsOf does the three steps of a turn with bounds, each share rounded up by ceilOf, which asks no bounds.
func boundsOf(r turnRow, a int64, b int64) impl.PairResult {
	first := a + ceilOf(r.p*b, 1024)
	second := b + ceilOf(r.u*first, 1024)
	return impl.PairResult{A: first + ceilOf(r.p*second, 1024), B: second}
}

func partBoundsOf(s int64, d int64) impl.PairResult {
	both := s + ceilOf(d, 2)
	return impl.PairResult{A: both, B: both}
}

// gatheredOf gathers the bounds that stand at from, and at every step-th place behind it: those of one half stand at every second one of them.
func gatheredOf(bounds []int64, from int, step int) []int64 {
	n := len(bounds) / step
	if n == 1 {
		return []int64{bounds[from]}
	}
	s, d := gatheredOf(bounds, from, 2*step), gatheredOf(bounds, from+step, 2*step)
	for i := range n / 4 {
		turned := boundsOf(rowOf(n, i), d[i], d[n/2-1-i])
		d[i], d[n/2-1-i] = turned.A, turned.B
	}
	out := make([]int64, n)
	for i := range n / 2 {
		parted := partBoundsOf(s[i], d[i])
		out[i], out[n-1-i] = parted.A, parted.B
	}
	return out
}

// frameBoundsOf lays three blocks behind one another and goes over both seams: the frame is the one in the middle.
func frameBoundsOf(before []int64, at []int64, behind []int64) []int64 {
	n := len(at)
	all := slices.Concat(gatheredOf(before, 0, 1), gatheredOf(at, 0, 1), gatheredOf(behind, 0, 1))
	return seamsOf(n, all, boundsOf)[n : 2*n]
}

// nearOf goes by the document's words, with numbers of any length.
func nearOf(a []int64, b []int64, bounds []int64) bool {
	if len(a) != len(b) || len(a) != len(bounds) {
		return false
	}
	for i := range a {
		gap := new(big.Int).Sub(big.NewInt(a[i]), big.NewInt(b[i]))
		if a[i] < -topEnd || a[i] > topEnd || b[i] < -topEnd || b[i] > topEnd || gap.Abs(gap).Cmp(big.NewInt(bounds[i])) > 0 {
			return false
		}
	}
	return true
}

// gapsOf tells how far a and b, which are near 0 enough, are from each other.
func gapsOf(a []int64, b []int64) []int64 {
	out := make([]int64, len(a))
	for i := range a {
		out[i] = max(a[i], b[i]) - min(a[i], b[i])
	}
	return out
}

// wantNear asks that a and b are off by no more than bounds tell, and that IsWithin says so.
func wantNear(t *testing.T, a []int64, b []int64, bounds []int64, what string, args ...any) {
	t.Helper()
	if !nearOf(a, b, bounds) {
		t.Errorf("%s %v: %v and %v are off by more than %v", what, args, a, b, bounds)
	}
	if !impl.IsWithin(a, b, bounds) {
		t.Errorf("IsWithin %v, %v, %v: got false", a, b, bounds)
	}
}

// rightBounds are let in where end is the greatest one: its own edges, and what is next to places where halves and shares are rounded.
func rightBounds(end int64) []int64 {
	return []int64{0, 1, 2, 3, 4, 5, 511, 512, 513, 1023, 1024, 1025, 2048, 131047, 131048, end / 2, end/2 + 1, end - 3, end - 2, end - 1, end}
}

// noBounds are below 0, even where the same number above 0 is a bound, or beyond end.
func noBounds(end int64) []int64 {
	list := []int64{-1, -2, -3, -512, -1024, -end / 2, 1 - end, -end}
	for _, v := range beyond(end) {
		if v < 0 || v > end { // MaxInt32 is far for some ends alone
			list = append(list, v)
		}
	}
	return list
}

// anyBounds are as often near 0 as near end, which is one of them now and then.
func anyBounds(r *rand.Rand, n int, end int64) []int64 {
	out := make([]int64, n)
	reach := min(end, int64(1)<<r.Intn(38))
	for i := range out {
		out[i] = r.Int63n(reach + 1)
		if r.Intn(8) == 0 {
			out[i] = []int64{0, end}[r.Intn(2)]
		}
	}
	return out
}

// offBy puts each number off by its bound, above or below by the binary digits of signs.
func offBy(list []int64, bounds []int64, signs int) []int64 {
	out := slices.Clone(list)
	for i := range out {
		if signs>>i&1 == 1 {
			out[i] -= bounds[i]
		} else {
			out[i] += bounds[i]
		}
	}
	return out
}

// offWithin puts each number off by no more than its bound, and never beyond end.
func offWithin(r *rand.Rand, list []int64, bounds []int64, end int64) []int64 {
	out := slices.Clone(list)
	for i := range out {
		out[i] = min(max(out[i]+r.Int63n(2*bounds[i]+1)-bounds[i], -end), end)
	}
	return out
}

func TestBoundConstants(t *testing.T) {
	if impl.MaxBound != boundEnd || impl.MaxTop != topEnd {
		t.Error(impl.MaxBound, int64(impl.MaxTop))
	}
}

// TestTurnBoundsExamples are worked out by hand; behind some stands what the three steps make of a, b, a.
func TestTurnBoundsExamples(t *testing.T) {
	rows := []struct{ size, n, a, b, x, y int64 }{
		{4, 0, 0, 0, 0, 0},
		{4, 0, 0, 1024, 204, 1044}, // 101, 20 (19.7), 103 (102.97)
		{4, 0, 1024, 0, 1044, 200}, // 0, 200, 20 (19.7)
		{4, 0, 0, 1, 2, 2},         // each share is far below one, and is one
		{4, 0, 1, 0, 2, 1},
		{8, 3, 1, 1, 4, 3},                         // 2, 3 (2 * 650 / 1024 is two), 4 (3 * 366 / 1024 is two)
		{4, 1, 7, 9, 15, 15},                       // 7 + 3 (2.7), 9 + 6 (5.6), 10 + 5 (4.6)
		{16, 0, 0, 1024, 51, 1026},                 // 25, 2 (1.2), 26 (25.05)
		{8, 0, 131047, 512, 131722, 13312},         // 25, 12800, 650: nothing is rounded
		{8, 0, 131048, 512, 131724, 13313},         // 25, 12801, 651: what is a little more is rounded up
		{8, 0, 131047, 513, 131724, 13314},         // 26, 12801, 651
		{16, 0, wide, 0, 137602793472, 6710886400}, // 2 to the power of 27, times 50, and 25 of 1024 of that
		{16, 0, 0, wide, 6714886400, 137602793472},
		{16, 0, 0, wide - 1, 6714886400, 137602793471},
		{4, 1, wide, wide, 251161134208, 237003210752},
		{16, 7, wide, wide, 292831270912, 265400877056},
	}
	for _, r := range rows {
		wantPair(t, impl.TurnBounds(r.size, r.n, r.a, r.b), impl.PairResult{A: r.x, B: r.y}, "TurnBounds", r)
	}
}

func TestTurnBoundsSmall(t *testing.T) {
	for _, r := range turnTable {
		for a := range int64(40) {
			for b := range int64(40) {
				wantPair(t, impl.TurnBounds(r.size, r.n, a, b), boundsOf(r, a, b), "TurnBounds", r, a, b)
			}
		}
	}
}

func TestTurnBoundsEdgesAndAny(t *testing.T) {
	source := rand.New(rand.NewSource(81))
	tooWide := 0
	for _, r := range turnTable {
		for _, a := range rightBounds(wide) {
			for _, b := range rightBounds(wide) {
				wantPair(t, impl.TurnBounds(r.size, r.n, a, b), boundsOf(r, a, b), "TurnBounds", r, a, b)
				if !isWide(impl.TurnBounds(r.size, r.n, a, b)) {
					tooWide++
				}
			}
		}
		for range 1000 {
			v := anyBounds(source, 2, wide)
			wantPair(t, impl.TurnBounds(r.size, r.n, v[0], v[1]), boundsOf(r, v[0], v[1]), "TurnBounds", r, v)
		}
	}
	if tooWide == 0 {
		t.Error("nothing that is told left the bounds")
	}
}

// TestTurnBoundsShares: products that 1024 divides, which need no rounding, and the ones next to them, which do.
func TestTurnBoundsShares(t *testing.T) {
	for _, r := range turnTable {
		for _, times := range []int64{r.p, r.u} {
			for v := range int64(2100) {
				if rest := times * v % 1024; rest <= times || rest >= 1024-times {
					wantPair(t, impl.TurnBounds(r.size, r.n, v, 0), boundsOf(r, v, 0), "TurnBounds", r, v, 0)
					wantPair(t, impl.TurnBounds(r.size, r.n, 0, v), boundsOf(r, 0, v), "TurnBounds", r, 0, v)
				}
			}
		}
	}
}

// TestTurnBoundsFaults: a turn that is none with right bounds and with wrong ones; wrong bounds alone.
func TestTurnBoundsFaults(t *testing.T) {
	for _, none := range noTurns {
		for _, v := range [][2]int64{{0, 0}, {1024, 7}, {wide, wide}, {wide + 1, 0}, {0, -1}, {farNumbers[0], farNumbers[0]}} {
			wantNoPair(t, impl.TurnBounds(none[0], none[1], v[0], v[1]), "TurnBounds", none, v)
		}
	}
	for _, r := range turnTable {
		for _, wrong := range noBounds(wide) {
			for _, v := range append(rightBounds(wide), wrong) {
				wantNoPair(t, impl.TurnBounds(r.size, r.n, wrong, v), "TurnBounds", r, wrong, v)
				wantNoPair(t, impl.TurnBounds(r.size, r.n, v, wrong), "TurnBounds", r, v, wrong)
			}
		}
	}
}

func TestPartBounds(t *testing.T) {
	rows := []struct{ s, d, both int64 }{
		{0, 0, 0}, {0, 1, 1}, {0, 2, 1}, {0, 3, 2}, {0, 4, 2}, {1, 0, 1}, {7, 0, 7}, {3, 5, 6}, {3, 6, 6}, {3, 7, 7},
		{wide, 0, wide}, {wide, 1, wide + 1}, {0, wide, wide / 2}, {0, wide - 1, wide / 2}, {0, wide - 2, wide/2 - 1},
		{wide, wide, wide + wide/2}, {wide, wide - 1, wide + wide/2}, {wide - 1, wide - 2, wide + wide/2 - 2},
	}
	for _, r := range rows {
		wantPair(t, impl.PartBounds(r.s, r.d), impl.PairResult{A: r.both, B: r.both}, "PartBounds", r)
	}
	for _, s := range rightBounds(wide) {
		for _, d := range rightBounds(wide) {
			wantPair(t, impl.PartBounds(s, d), partBoundsOf(s, d), "PartBounds", s, d)
		}
	}
	for _, wrong := range noBounds(wide) {
		for _, v := range append(rightBounds(wide), wrong) {
			wantNoPair(t, impl.PartBounds(wrong, v), "PartBounds", wrong, v)
			wantNoPair(t, impl.PartBounds(v, wrong), "PartBounds", v, wrong)
		}
	}
}

// wantPairsNear asks what a way back tells of a and b, and of both when they are off.
func wantPairsNear(t *testing.T, back func(int64, int64) impl.PairResult, bounds impl.PairResult, a []int64, off []int64, what string, args ...any) {
	t.Helper()
	one, other := back(a[0], a[1]), back(off[0], off[1])
	if one.Code != impl.OK || other.Code != impl.OK || bounds.Code != impl.OK {
		t.Fatalf("%s %v of %v and %v: codes %d, %d, %d", what, args, a, off, one.Code, other.Code, bounds.Code)
	}
	wantNear(t, []int64{one.A, one.B}, []int64{other.A, other.B}, []int64{bounds.A, bounds.B}, what, args, a, off)
}

// TestPairsAreNearSmall: all pairs near 0, off by all that is near 0, with either sign.
func TestPairsAreNearSmall(t *testing.T) {
	for _, r := range turnTable {
		back := func(a int64, b int64) impl.PairResult { return impl.BackPair(r.size, r.n, a, b) }
		for a := int64(-6); a <= 6; a++ {
			for b := int64(-6); b <= 6; b++ {
				for offA := int64(-4); offA <= 4; offA++ {
					for offB := int64(-4); offB <= 4; offB++ {
						v, off := []int64{a, b}, []int64{a + offA, b + offB}
						gaps := gapsOf(v, off)
						wantPairsNear(t, back, impl.TurnBounds(r.size, r.n, gaps[0], gaps[1]), v, off, "BackPair", r)
						wantPairsNear(t, impl.PartPair, impl.PartBounds(gaps[0], gaps[1]), v, off, "PartPair")
					}
				}
			}
		}
	}
}

// TestPairsAreNearAny: off by just as much as the bounds, with each sign, and by no more than them.
func TestPairsAreNearAny(t *testing.T) {
	source := rand.New(rand.NewSource(82))
	for _, r := range turnTable {
		back := func(a int64, b int64) impl.PairResult { return impl.BackPair(r.size, r.n, a, b) }
		for range 1500 {
			bounds := anyBounds(source, 2, wide)
			v := offWithin(source, []int64{0, 0}, []int64{wide - bounds[0], wide - bounds[1]}, wide)
			turned, parted := impl.TurnBounds(r.size, r.n, bounds[0], bounds[1]), impl.PartBounds(bounds[0], bounds[1])
			offs := [][]int64{offWithin(source, v, bounds, wide), offWithin(source, v, bounds, wide)}
			for signs := range 4 {
				offs = append(offs, offBy(v, bounds, signs))
			}
			for _, off := range offs {
				wantPairsNear(t, back, turned, v, off, "BackPair", r, bounds)
				wantPairsNear(t, impl.PartPair, parted, v, off, "PartPair", bounds)
			}
		}
	}
}

// TestPartBoundsAreReached: some pair is off by just as much as is told, so that nothing less would do.
func TestPartBoundsAreReached(t *testing.T) {
	for s := range int64(6) {
		for d := range int64(9) {
			a, b := int64(0), int64(0)
			for from := range int64(2) {
				for _, sign := range []int64{1, -1} {
					one, other := impl.PartPair(0, from), impl.PartPair(s, from+sign*d)
					a, b = max(a, gapsOf([]int64{one.A}, []int64{other.A})[0]), max(b, gapsOf([]int64{one.B}, []int64{other.B})[0])
				}
			}
			wantPair(t, impl.PartBounds(s, d), impl.PairResult{A: a, B: b}, "PartBounds, reached", s, d)
		}
	}
}

// TestGatherBoundsExamples are worked out by hand.
func TestGatherBoundsExamples(t *testing.T) {
	rows := []struct{ bounds, list []int64 }{
		{[]int64{0, 0, 0, 0}, []int64{0, 0, 0, 0}},
		{[]int64{1, 0, 0, 0}, []int64{1, 1, 1, 1}},
		{[]int64{0, 0, 1, 0}, []int64{1, 1, 1, 1}},                               // S is 1, 1
		{[]int64{0, 0, 4, 0}, []int64{2, 2, 2, 2}},                               // S is 2, 2
		{[]int64{0, 1, 0, 0}, []int64{2, 1, 1, 2}},                               // D is 1, 1, turned 3, 2
		{[]int64{0, 0, 0, 1}, []int64{2, 1, 1, 2}},                               // half of 1 is 1, too
		{[]int64{0, 2, 0, 0}, []int64{2, 2, 2, 2}},                               // D is 2, 2, turned 4, 3
		{[]int64{0, 1024, 0, 0}, []int64{624, 622, 622, 624}},                    // D is 1024, 1024, turned 1248, 1244
		{[]int64{3, 1024, 4, 0}, []int64{629, 627, 627, 629}},                    // S is 5, 5
		{[]int64{3, 1000, 5, 48}, []int64{630, 628, 628, 630}},                   // S is 6, 6, and D as it was
		{[]int64{0, 0, 0, 0, 7, 0, 0, 0}, filled(8, 4)},                          // the S of S is 4, 4
		{withAt(filled(16, 0), 8, 9), filled(16, 5)},                             // so
		{[]int64{0, 0, 1, 0, 0, 0, 0, 0}, rowsOfFour(2, 1, 1, 2)},                // S is 2, 1, 1, 2
		{[]int64{0, 0, 0, 0, 0, 0, 5, 0}, rowsOfFour(3, 2, 2, 3)},                // the D of S is 3, 3, turned 5, 4
		{[]int64{0, 1, 0, 0, 0, 0, 0, 0}, rowsOfFour(2, 2, 1, 1)},                // D is 1, 1, 1, 1: the pair 1 and 1 is turned 3 and 2, twice
		{[]int64{0, 2048, 0, 0, 0, 0, 0, 0}, rowsOfFour(1130, 1379, 1366, 1129)}, // D is 2259, 2758, 2731, 2258
	}
	for _, r := range rows {
		wantInts(t, impl.GatherBounds(r.bounds), impl.OK, r.list, "GatherBounds", r.bounds)
	}
	for _, n := range blockLengths {
		for _, v := range rightBounds(boundEnd) {
			wantInts(t, impl.GatherBounds(withAt(filled(n, 0), 0, v)), impl.OK, filled(n, v), "GatherBounds of a level", n, v)
			wantInts(t, impl.GatherBounds(withAt(filled(n, 0), n/2, v)), impl.OK, filled(n, (v+1)/2), "GatherBounds of the last halves", n, v)
		}
	}
}

// rowsOfFour is a block of eight: its second half is the first one from behind.
func rowsOfFour(a int64, b int64, c int64, d int64) []int64 {
	return []int64{a, b, c, d, d, c, b, a}
}

func TestGatherBoundsAny(t *testing.T) {
	r := rand.New(rand.NewSource(83))
	ask := func(bounds []int64) {
		wantInts(t, impl.GatherBounds(bounds), impl.OK, gatheredOf(bounds, 0, 1), "GatherBounds", bounds)
	}
	for i := range 5 * 5 * 5 * 5 {
		ask([]int64{int64(i % 5), int64(i / 5 % 5), int64(i / 25 % 5), int64(i / 125)})
	}
	for _, n := range blockLengths {
		for at := range n {
			for _, v := range rightBounds(boundEnd) {
				ask(withAt(filled(n, 0), at, v))
				ask(withAt(filled(n, boundEnd), at, v))
				ask(withAt(filled(n, 1), at, v))
			}
		}
		for range 1000 {
			ask(anyBounds(r, n, boundEnd))
		}
	}
}

func TestGatherBoundsFaults(t *testing.T) {
	wantBlockFaults(t, impl.GatherBounds, rightBounds(boundEnd), noBounds(boundEnd), "GatherBounds")
}

func wantBlocksNear(t *testing.T, coefs []int64, off []int64, bounds []int64) {
	t.Helper()
	one, other, told := impl.GatherBlock(coefs), impl.GatherBlock(off), impl.GatherBounds(bounds)
	if one.Code != impl.OK || other.Code != impl.OK || told.Code != impl.OK {
		t.Fatalf("%v, %v, %v: codes %d, %d, %d", coefs, off, bounds, one.Code, other.Code, told.Code)
	}
	wantNear(t, one.List, other.List, told.List, "GatherBlock", coefs, off, bounds)
}

// TestBlocksAreNear: coefficients are off by just as much as their bounds, with all signs (of sixteen with some), and by no more.
// The bounds go so far that coefficients are put off from one end to the other.
func TestBlocksAreNear(t *testing.T) {
	r := rand.New(rand.NewSource(84))
	for _, n := range blockLengths {
		for range 40 {
			bounds := anyBounds(r, n, coefEnd)
			coefs := offWithin(r, filled(n, 0), gapsOf(bounds, filled(n, coefEnd)), coefEnd)
			for signs := 0; signs < 1<<n; signs += 1 + n/16*r.Intn(500) {
				wantBlocksNear(t, coefs, offBy(coefs, bounds, signs), bounds)
			}
		}
		for range 2000 {
			coefs, end := anyList(r, n, coefEnd), int64(1)<<r.Intn(27)
			bounds := anyBounds(r, n, end)
			off := offWithin(r, coefs, bounds, coefEnd)
			wantBlocksNear(t, coefs, off, bounds)
			wantBlocksNear(t, coefs, off, gapsOf(coefs, off))
		}
		for signs := 0; signs < 1<<n; signs += 1 + n/16*30 {
			wantBlocksNear(t, signed(n, signs, coefEnd), signed(n, r.Intn(1<<n), coefEnd), filled(n, 2*coefEnd))
		}
	}
}

// TestBlocksAreNearSmall: all of four near 0, off by one at each place, where rounding is most of what goes wrong.
func TestBlocksAreNearSmall(t *testing.T) {
	for _, coefs := range smallLists() {
		for signs := range 16 {
			for _, bounds := range [][]int64{{1, 1, 1, 1}, {0, 1, 0, 1}, {0, 0, 1, 2}, {3, 2, 1, 0}, {0, 0, 0, 0}} {
				wantBlocksNear(t, coefs, offBy(coefs, bounds, signs), bounds)
			}
		}
	}
}

// TestFrameBoundsExamples are worked out by hand: the bounds 0, 1024, 0, 0 tell the block 624, 622, 622, 624.
func TestFrameBoundsExamples(t *testing.T) {
	still, block := filled(4, 0), []int64{0, 1024, 0, 0}
	rows := []struct{ before, at, behind, list []int64 }{
		{still, still, still, still},
		{block, still, still, []int64{122, 346, 0, 0}},      // 624 * 200 / 1024, and 622 * 569 / 1024
		{still, still, block, []int64{0, 0, 411, 125}},      // of 0 and 624: 62, 637, 62 + 63; of 0 and 622: 189, 728, 189 + 222
		{still, block, still, []int64{637, 728, 728, 637}},  // as the second of both ahead, as the first of both behind
		{block, still, block, []int64{122, 346, 411, 125}},  // the halves have nothing in common
		{block, block, still, []int64{758, 1073, 728, 637}}, // 624 and 686 * 200 / 1024; 622 and 811 * 569 / 1024
	}
	for _, r := range rows {
		wantInts(t, impl.FrameBounds(4, r.before, r.at, r.behind), impl.OK, r.list, "FrameBounds", r)
	}
}

// TestWhichSeamOfTheFrame: one block alone is a level, of which each seam takes a half.
func TestWhichSeamOfTheFrame(t *testing.T) {
	for _, n := range blockLengths {
		size, h, still := int64(n), n/2, filled(n, 0)
		for _, v := range rightBounds(boundEnd) {
			level := withAt(still, 0, v)
			before, at, behind := filled(n, 0), filled(n, 0), filled(n, 0)
			for i := range h {
				row := rowOf(n, i)
				before[i], behind[n-1-i] = boundsOf(row, v, 0).B, boundsOf(row, 0, v).A
				at[i], at[n-1-i] = boundsOf(row, 0, v).B, boundsOf(row, v, 0).A
			}
			wantInts(t, impl.FrameBounds(size, level, still, still), impl.OK, before, "FrameBounds, before", n, v)
			wantInts(t, impl.FrameBounds(size, still, level, still), impl.OK, at, "FrameBounds, at", n, v)
			wantInts(t, impl.FrameBounds(size, still, still, level), impl.OK, behind, "FrameBounds, behind", n, v)
		}
	}
}

func TestFrameBoundsAny(t *testing.T) {
	r := rand.New(rand.NewSource(85))
	for _, n := range blockLengths {
		ask := func(before []int64, at []int64, behind []int64) {
			t.Helper()
			wantInts(t, impl.FrameBounds(int64(n), before, at, behind), impl.OK, frameBoundsOf(before, at, behind), "FrameBounds", before, at, behind)
		}
		for range 700 {
			ask(anyBounds(r, n, boundEnd), anyBounds(r, n, boundEnd), anyBounds(r, n, boundEnd))
		}
		for at := range n {
			for _, v := range []int64{1, 2, 511, 1024, boundEnd - 1, boundEnd} {
				for _, other := range []int64{0, 1, boundEnd} {
					one, rest := withAt(filled(n, 0), at, v), filled(n, other)
					ask(one, rest, rest)
					ask(rest, one, rest)
					ask(rest, rest, one)
				}
			}
		}
	}
}

// thirdFrame plays three blocks; the third frame is the one of the block in the middle, whatever the synth was ahead of them.
func thirdFrame(t *testing.T, y impl.Synth, blocks [3][]int64) []int64 {
	t.Helper()
	var frame []int64
	for _, coefs := range blocks {
		played := impl.PlayBlock(y, coefs)
		if played.Code != impl.OK {
			t.Fatalf("PlayBlock %v, %v: code %d", y, coefs, played.Code)
		}
		y, frame = played.Synth, played.Frame
	}
	return frame
}

func wantFramesNear(t *testing.T, r *rand.Rand, one [3][]int64, other [3][]int64, bounds [3][]int64) {
	t.Helper()
	n := len(one[0])
	told := impl.FrameBounds(int64(n), bounds[0], bounds[1], bounds[2])
	if told.Code != impl.OK {
		t.Fatalf("FrameBounds %v: code %d", bounds, told.Code)
	}
	wantNear(t, thirdFrame(t, anySynth(r, n), one), thirdFrame(t, anySynth(r, n), other), told.List, "PlayBlock", one, other, bounds)
}

// TestFramesAreNear: the coefficients of three blocks are off by just as much as their bounds, with any signs, and by no more.
func TestFramesAreNear(t *testing.T) {
	r := rand.New(rand.NewSource(86))
	for _, n := range blockLengths {
		for range 2500 {
			var one, just, within, gaps, bounds [3][]int64
			for i := range one {
				end := int64(1) << r.Intn(25)
				bounds[i] = anyBounds(r, n, end)
				one[i] = offWithin(r, filled(n, 0), gapsOf(bounds[i], filled(n, coefEnd)), coefEnd)
				just[i], within[i] = offBy(one[i], bounds[i], r.Intn(1<<n)), offWithin(r, one[i], bounds[i], coefEnd)
				gaps[i] = gapsOf(one[i], within[i])
			}
			wantFramesNear(t, r, one, just, bounds)
			wantFramesNear(t, r, one, within, bounds)
			wantFramesNear(t, r, one, within, gaps)
		}
	}
}

// TestFramesAreNearEdges: from one end to the other, one block alone, and what is next to 0.
func TestFramesAreNearEdges(t *testing.T) {
	r := rand.New(rand.NewSource(87))
	for _, n := range blockLengths {
		still := filled(n, 0)
		for range 400 {
			far, one := signed(n, r.Intn(1<<n), coefEnd), signed(n, r.Intn(1<<n), 1)
			two := filled(n, 2*coefEnd)
			wantFramesNear(t, r, [3][]int64{far, far, far}, [3][]int64{offBy(still, far, -1), offBy(still, far, -1), offBy(still, far, -1)}, [3][]int64{two, two, two})
			for i := range 3 {
				blocks, off, bounds := [3][]int64{one, still, one}, [3][]int64{one, still, one}, [3][]int64{still, still, still}
				off[i], bounds[i] = offBy(blocks[i], filled(n, 1), r.Intn(1<<n)), filled(n, 1)
				wantFramesNear(t, r, blocks, off, bounds)
			}
			wantFramesNear(t, r, [3][]int64{one, far, one}, [3][]int64{one, far, one}, [3][]int64{still, still, still})
		}
	}
}

// frameFaultOf is the code that the document asks of a frame's lists.
func frameFaultOf(size int64, lists [3][]int64) int64 {
	if size != 4 && size != 8 && size != 16 {
		return impl.ErrRange
	}
	for _, list := range lists {
		if int64(len(list)) != size {
			return impl.ErrMany
		}
	}
	for _, list := range lists {
		if !between(list, 0, boundEnd) {
			return impl.ErrRange
		}
	}
	return impl.OK
}

// TestFrameBoundsFaults asks right lists and wrong ones at each of the three places: a size that is none ahead of all,
// how many there are of each ahead of what any of them is.
func TestFrameBoundsFaults(t *testing.T) {
	seen := map[int64]int{}
	for _, n := range blockLengths {
		right := filled(n, boundEnd)
		lists := [][]int64{right, filled(n, 0), nil, filled(n-1, 0), filled(n+1, -1), filled(n/2, boundEnd+1), filled(2*n, 0), filled(1, -1), withAt(right, n-1, boundEnd+1), withAt(right, 0, -1)}
		for _, before := range lists {
			for _, at := range lists {
				for _, behind := range lists {
					for _, size := range []int64{int64(n), 8, 5, 0, -int64(n), int64(n) + 1} {
						want := frameFaultOf(size, [3][]int64{before, at, behind})
						seen[want]++
						if want == impl.OK {
							wantInts(t, impl.FrameBounds(size, before, at, behind), impl.OK, frameBoundsOf(before, at, behind), "FrameBounds", before, at, behind)
						} else {
							wantInts(t, impl.FrameBounds(size, before, at, behind), want, nil, "FrameBounds", size, before, at, behind)
						}
					}
				}
			}
		}
	}
	if seen[impl.OK] == 0 || seen[impl.ErrMany] == 0 || seen[impl.ErrRange] == 0 || len(seen) != 3 {
		t.Error(seen)
	}
}

// TestFrameBoundsRange: each wrong number at each place of each list.
func TestFrameBoundsRange(t *testing.T) {
	for _, n := range blockLengths {
		for _, other := range []int64{0, boundEnd} {
			rest := filled(n, other)
			for at := range n {
				for _, v := range noBounds(boundEnd) {
					wrong := withAt(rest, at, v)
					wantInts(t, impl.FrameBounds(int64(n), wrong, rest, rest), impl.ErrRange, nil, "FrameBounds, before", n, at, v)
					wantInts(t, impl.FrameBounds(int64(n), rest, wrong, rest), impl.ErrRange, nil, "FrameBounds, at", n, at, v)
					wantInts(t, impl.FrameBounds(int64(n), rest, rest, wrong), impl.ErrRange, nil, "FrameBounds, behind", n, at, v)
				}
			}
		}
	}
}

func TestFrameBoundsSizes(t *testing.T) {
	for _, size := range noSizes {
		for n := range 20 {
			for _, v := range []int64{0, -1, boundEnd + 1} {
				list := filled(n, v)
				wantInts(t, impl.FrameBounds(size, list, list, list), impl.ErrRange, nil, "FrameBounds", size, n, v)
			}
		}
	}
}

func wantWithin(t *testing.T, a []int64, b []int64, bounds []int64, want bool) {
	t.Helper()
	if got := impl.IsWithin(a, b, bounds); got != want {
		t.Errorf("IsWithin %v, %v, %v: got %v", a, b, bounds, got)
	}
	if got := impl.IsWithin(b, a, bounds); got != want {
		t.Errorf("IsWithin %v, %v, %v: got %v", b, a, bounds, got)
	}
}

// TestWithinNumbers asks one number, and the same one at each place of longer lists.
func TestWithinNumbers(t *testing.T) {
	last := farNumbers[len(farNumbers)-1]
	rows := []struct {
		a, b, bound int64
		want        bool
	}{
		{0, 0, 0, true}, {1, 0, 0, false}, {1, 0, 1, true}, {1, 3, 2, true}, {1, 3, 1, false}, {-1, 1, 2, true}, {-1, 1, 1, false}, {-7, -7, 0, true},
		{0, 0, -1, false}, {5, 5, -1, false}, {5, 6, -1, false}, {0, 0, farNumbers[0], false}, {1, 2, farNumbers[0], false},
		{topEnd, topEnd, 0, true}, {-topEnd, -topEnd, 0, true}, {topEnd, -topEnd, 2 * topEnd, true}, {topEnd, -topEnd, 2*topEnd - 1, false}, {topEnd, -topEnd, last, true},
		{topEnd + 1, topEnd + 1, 0, false}, {-topEnd - 1, -topEnd - 1, 0, false}, {topEnd + 1, topEnd, last, false}, {-topEnd - 1, -topEnd, last, false}, {topEnd + 1, 0, last, false},
		{last, last, 0, false}, {farNumbers[0], farNumbers[0], 0, false}, {last, farNumbers[0], last, false}, {farNumbers[0], 0, last, false}, {last, -1, 0, false},
	}
	for _, r := range rows {
		wantWithin(t, []int64{r.a}, []int64{r.b}, []int64{r.bound}, r.want)
		for at := range 5 {
			wantWithin(t, withAt(filled(5, 9), at, r.a), withAt(filled(5, 7), at, r.b), withAt(filled(5, 2), at, r.bound), r.want)
			wantWithin(t, withAt(filled(5, 9), at, r.a), withAt(filled(5, 7), at, r.b), withAt(withAt(filled(5, 2), (at+2)%5, 1), at, r.bound), false)
		}
	}
}

func TestWithinLengths(t *testing.T) {
	lengths := []int{0, 1, 2, 3, 4, 15, 16, 17, 64, 65, 1000, 5000}
	for _, na := range lengths {
		for _, nb := range lengths {
			for _, n := range lengths {
				wantWithin(t, filled(na, 1), filled(nb, 3), filled(n, 2), na == nb && nb == n)
			}
		}
	}
	empty := []int64{}
	for _, a := range [][]int64{nil, empty} {
		for _, b := range [][]int64{nil, empty} {
			wantWithin(t, a, b, nil, true)
			wantWithin(t, a, b, empty, true)
			wantWithin(t, a, b, []int64{0}, false)
			wantWithin(t, a, []int64{0}, b, false)
			wantWithin(t, a, []int64{0}, []int64{0}, false)
		}
	}
}

func TestWithinAny(t *testing.T) {
	r := rand.New(rand.NewSource(88))
	seen := map[bool]int{}
	for range 20000 {
		n := r.Intn(6)
		a, end := anyList(r, n, topEnd), topEnd+int64(r.Intn(2)*5)
		bounds := anyBounds(r, n, topEnd)
		b := offWithin(r, a, bounds, end)
		if n > 0 && r.Intn(2) == 0 {
			b[r.Intn(n)] += []int64{1, -1, 0}[r.Intn(3)] * (1 + bounds[0])
		}
		want := nearOf(a, b, bounds)
		seen[want]++
		wantWithin(t, a, b, bounds, want)
	}
	if seen[true] < 1000 || seen[false] < 1000 {
		t.Error(seen)
	}
}

// boundAnswers has all lists that the chapter's functions tell of one list, and of its three parts.
func boundAnswers(size int64, list []int64) [][]int64 {
	n := len(list) / 3
	before, at, behind := list[:n], list[n:2*n], list[2*n:]
	gathered, framed := impl.GatherBounds(at), impl.FrameBounds(size, before, at, behind)
	codes := []int64{gathered.Code, framed.Code, 0, 0}
	if impl.IsWithin(before, at, behind) {
		codes[2] = 1
	}
	if n > 0 {
		turned, parted := impl.TurnBounds(size, size/2-1, list[0], list[1]), impl.PartBounds(list[1], list[2])
		codes = append(codes, turned.Code, turned.A, turned.B, parted.Code, parted.A, parted.B)
	}
	return [][]int64{codes, gathered.List, framed.List, impl.GatherBounds(list).List}
}

// boundArguments are lists for boundAnswers of the size n: right ones, wrong ones, and some of another length.
func boundArguments(r *rand.Rand, n int) [][]int64 {
	right := anyBounds(r, 3*n, boundEnd)
	return [][]int64{
		filled(3*n, 0),
		filled(3*n, boundEnd),
		right,
		anyBounds(r, 3*n, 100),
		withAt(right, 0, boundEnd+1),
		withAt(right, n, -1),
		withAt(right, 3*n-1, farNumbers[0]),
		anyList(r, 3*n, wide),
		anyBounds(r, 3*n+1, 100),
		anyBounds(r, 3*n-3, 100),
		anyBounds(r, n, boundEnd),
		nil,
	}
}

func TestBoundsShareNothing(t *testing.T) {
	wantStayAll(t, rand.New(rand.NewSource(89)), boundArguments, boundAnswers, "bounds")
}

// TestBoundsOfOneList: where all lists of the arguments are the same memory, the answers are as if they were not.
func TestBoundsOfOneList(t *testing.T) {
	r := rand.New(rand.NewSource(90))
	for _, n := range blockLengths {
		for range 200 {
			list := anyBounds(r, n, boundEnd)
			before := slices.Clone(list)
			got := impl.FrameBounds(int64(n), list, list, list)
			wantInts(t, got, impl.OK, frameBoundsOf(before, before, before), "FrameBounds", before)
			wantWithin(t, list, list, list, true)
			if !slices.Equal(list, before) {
				t.Fatalf("%v became %v", before, list)
			}
		}
	}
}

func TestBoundsHangOnArguments(t *testing.T) {
	wantHang(t, rand.New(rand.NewSource(91)), boundArguments, boundAnswers)
}
