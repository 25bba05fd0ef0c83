package tests

import (
	"math/rand"
	"slices"
	"sync"
	"testing"

	"loop.example/g00657/impl"
)

const wide = int64(1) << 37

type turnRow struct{ size, n, p, u int64 }

// turnTable is the document's table, written out.
var turnTable = []turnRow{
	{4, 0, 101, 200}, {4, 1, 311, 569},
	{8, 0, 50, 100}, {8, 1, 152, 297}, {8, 2, 257, 483}, {8, 3, 366, 650},
	{16, 0, 25, 50}, {16, 1, 76, 150}, {16, 2, 126, 249}, {16, 3, 178, 345},
	{16, 4, 230, 438}, {16, 5, 283, 526}, {16, 6, 338, 610}, {16, 7, 395, 688},
}

// rowOf is for turns that there are.
func rowOf(size int, n int) turnRow {
	return turnTable[slices.IndexFunc(turnTable, func(r turnRow) bool { return r.size == int64(size) && r.n == int64(n) })]
}

// noTurns have a size that is none, or a turn that this size has not: the first ones beyond, turns of other sizes, and far ones.
var noTurns = turnsThatAreNone()

func turnsThatAreNone() [][2]int64 {
	var list [][2]int64
	for _, size := range append([]int64{-16, -8, -4, -1, 0, 1, 2, 3, 5, 6, 7, 9, 10, 12, 15, 17, 20, 24, 32, 64}, farNumbers...) {
		for _, n := range append([]int64{-1, 0, 1, 2, 3, 7, 8}, farNumbers...) {
			list = append(list, [2]int64{size, n})
		}
	}
	for _, size := range []int64{4, 8, 16} {
		half := size / 2
		for _, n := range append([]int64{-1, -2, -half, -size, half, half + 1, size - 1, size, size + 1, 100}, farNumbers...) {
			list = append(list, [2]int64{size, n})
		}
	}
	return list
}

// beyondWide are the first ones that are too wide, on both sides of 0, and ones where products overflow.
func beyondWide() []int64 {
	list := []int64{wide + 1, -wide - 1, wide + 2, -wide - 2, 2 * wide, -2 * wide, impl.MaxTop, -impl.MaxTop}
	for _, v := range farNumbers {
		if v < -wide || v > wide { // some of them are far from 0 for 32 bits alone
			list = append(list, v)
		}
	}
	return list
}

// wideEdges are let in: the ends and what is next to them, and what is next to 0 and to what is rounded there.
func wideEdges() []int64 {
	return []int64{-wide, -wide + 1, -wide + 2, -wide / 2, -1025, -1024, -513, -512, -511, -3, -2, -1, 0, 1, 2, 3, 511, 512, 513, 1024, 1025, wide / 2, wide - 2, wide - 1, wide}
}

// aheadOf does the three steps by tenOf, which asks no bounds.
func aheadOf(r turnRow, a int64, b int64) impl.PairResult {
	first := a - tenOf(r.p*b)
	second := b + tenOf(r.u*first)
	return impl.PairResult{A: first - tenOf(r.p*second), B: second}
}

func backOf(r turnRow, a int64, b int64) impl.PairResult {
	first := a + tenOf(r.p*b)
	second := b - tenOf(r.u*first)
	return impl.PairResult{A: first + tenOf(r.p*second), B: second}
}

// isWide: both may be handed in.
func isWide(p impl.PairResult) bool {
	return -wide <= p.A && p.A <= wide && -wide <= p.B && p.B <= wide
}

func wantPair(t *testing.T, got impl.PairResult, want impl.PairResult, what string, args ...any) {
	t.Helper()
	if got != want {
		t.Errorf("%s %v: got %+v, want %+v", what, args, got, want)
	}
}

func wantNoPair(t *testing.T, got impl.PairResult, what string, args ...any) {
	t.Helper()
	wantPair(t, got, impl.PairResult{Code: impl.ErrRange}, what, args...)
}

// wantUndone goes one way and then the other, which brings a and b back, or tells a code where what is between is too wide.
func wantUndone(t *testing.T, there func(int64, int64) impl.PairResult, again func(int64, int64) impl.PairResult, a int64, b int64, what string, args ...any) {
	t.Helper()
	between := there(a, b)
	if between.Code != impl.OK {
		t.Errorf("%s %v of %d, %d: code %d", what, args, a, b, between.Code)
		return
	}
	if !isWide(between) {
		wantNoPair(t, again(between.A, between.B), what+" undone, too wide", args, a, b)
		return
	}
	wantPair(t, again(between.A, between.B), impl.PairResult{A: a, B: b}, what+" undone", args, a, b)
}

// wantTurned asks both ways of a turn, what they tell and that each undoes the other.
func wantTurned(t *testing.T, r turnRow, a int64, b int64) {
	t.Helper()
	ahead := func(a int64, b int64) impl.PairResult { return impl.TurnPair(r.size, r.n, a, b) }
	back := func(a int64, b int64) impl.PairResult { return impl.BackPair(r.size, r.n, a, b) }
	wantPair(t, ahead(a, b), aheadOf(r, a, b), "TurnPair", r, a, b)
	wantPair(t, back(a, b), backOf(r, a, b), "BackPair", r, a, b)
	wantUndone(t, ahead, back, a, b, "TurnPair", r)
	wantUndone(t, back, ahead, a, b, "BackPair", r)
}

// anyWide is as often near 0 as far from it.
func anyWide(r *rand.Rand) int64 {
	v := r.Int63n(1<<r.Intn(38) + 1)
	if r.Intn(2) == 0 {
		return -v
	}
	return v
}

func TestTurnConstants(t *testing.T) {
	if got := int64(impl.MaxWide); got != wide {
		t.Error(got)
	}
}

func TestTurnOf(t *testing.T) {
	for _, r := range turnTable {
		wantPair(t, impl.TurnOf(r.size, r.n), impl.PairResult{A: r.p, B: r.u}, "TurnOf", r.size, r.n)
	}
	for _, none := range noTurns {
		wantNoPair(t, impl.TurnOf(none[0], none[1]), "TurnOf", none)
	}
	told := 0
	for size := int64(-20); size <= 40; size++ {
		for n := int64(-20); n <= 40; n++ {
			if impl.TurnOf(size, n).Code == impl.OK {
				told++
			}
		}
	}
	if told != len(turnTable) {
		t.Errorf("%d turns are told", told)
	}
}

// TestTurnExamples are worked out by hand; behind each row stands what the three steps make of a, b, a.
func TestTurnExamples(t *testing.T) {
	ahead := []struct{ size, n, a, b, x, y int64 }{
		{4, 0, 1024, 0, 1004, 200},  // 1024, 200, less by 20 (19.7)
		{4, 0, 0, 1024, -200, 1004}, // -101, less by 20, less by 99
		{4, 1, 1, 1, 0, 2},          // 1 (0.3 is none), 2 (0.56 is one), 0 (0.6 is one)
		{4, 1, -1, -1, 0, -2},       // so, below 0
		{16, 7, 3, -5, 6, -2},       // 5, -2, 6
		{8, 3, 1000, -1000, 1407, -139},
		{8, 0, 0, 256, -25, 255},  // 12.5 is 13
		{8, 0, 0, -256, 24, -255}, // -12.5 is -12
		{16, 0, wide, wide, 130568227072, 143985999872},
		{4, 1, wide, -wide, 190683626368, -37874696192},
		{16, 7, -wide, wide, -194110646272, 9477029888},
	}
	for _, r := range ahead {
		wantPair(t, impl.TurnPair(r.size, r.n, r.a, r.b), impl.PairResult{A: r.x, B: r.y}, "TurnPair", r)
	}
	back := []struct{ size, n, a, b, x, y int64 }{
		{4, 0, 1004, 200, 1024, 0},
		{4, 0, 1024, 0, 1004, -200},
		{4, 1, 1, 1, 1, 0},
		{4, 1, 0, 2, 1, 1},
		{16, 7, 3, -5, -1, -6}, // 1, -6, -1
		{8, 3, 1000, -1000, 140, -1408},
		{8, 0, -25, 255, 0, 256},
		{8, 0, 24, -255, 0, -256},
		{16, 0, wide, wide, 143981999872, 130564227072},
		{16, 7, -wide, -wide, -194110646272, -9477029888},
	}
	for _, r := range back {
		wantPair(t, impl.BackPair(r.size, r.n, r.a, r.b), impl.PairResult{A: r.x, B: r.y}, "BackPair", r)
	}
}

// TestEachTurnSmall: all pairs around 0, where rounding is most of what a turn does.
func TestEachTurnSmall(t *testing.T) {
	for _, r := range turnTable {
		from := map[impl.PairResult]bool{}
		for a := int64(-45); a <= 45; a++ {
			for b := int64(-45); b <= 45; b++ {
				wantTurned(t, r, a, b)
				from[impl.TurnPair(r.size, r.n, a, b)] = true
			}
		}
		if len(from) != 91*91 {
			t.Errorf("%v: two pairs are turned into the same one", r)
		}
	}
}

func TestEachTurnEdges(t *testing.T) {
	edges := wideEdges()
	tooWide := 0
	for _, r := range turnTable {
		for _, a := range edges {
			for _, b := range edges {
				wantTurned(t, r, a, b)
				if !isWide(impl.TurnPair(r.size, r.n, a, b)) {
					tooWide++
				}
			}
		}
	}
	if tooWide == 0 {
		t.Error("no pair left the bounds by being turned")
	}
}

// TestEachTurnHalves: products that lie just between two whole numbers, above and below 0.
func TestEachTurnHalves(t *testing.T) {
	for _, r := range turnTable {
		for _, times := range []int64{r.p, r.u} {
			for v := int64(-1100); v <= 1100; v++ {
				if (times*v)%1024 == 512 || (times*v)%1024 == -512 {
					for _, w := range []int64{-7, 0, 7} {
						wantTurned(t, r, v, w)
						wantTurned(t, r, w, v)
					}
				}
			}
		}
	}
}

func TestEachTurnAny(t *testing.T) {
	source := rand.New(rand.NewSource(51))
	for _, r := range turnTable {
		for range 2000 {
			wantTurned(t, r, anyWide(source), anyWide(source))
		}
	}
}

// TestProductsBeyondTenOf: TenOf itself tells a code of them, and the turn none.
func TestProductsBeyondTenOf(t *testing.T) {
	for _, r := range turnTable {
		for _, v := range []int64{wide, -wide, wide - 1, 1 - wide} {
			wantInt(t, impl.TenOf(r.p*v), impl.ErrRange, 0, "TenOf", r.p, v)
			wantInt(t, impl.TenOf(r.u*v), impl.ErrRange, 0, "TenOf", r.u, v)
			wantTurned(t, r, 0, v)
			wantTurned(t, r, v, 0)
		}
		for _, v := range besides(impl.MaxTop/r.p, -impl.MaxTop/r.p, impl.MaxTop/r.u, -impl.MaxTop/r.u) {
			wantTurned(t, r, 0, v)
			wantTurned(t, r, v, 0)
		}
	}
}

// TestTurnFaults: a turn that is none is told with numbers that are right and with wrong ones; so are wrong numbers alone.
func TestTurnFaults(t *testing.T) {
	for _, none := range noTurns {
		for _, v := range [][2]int64{{0, 0}, {1024, -7}, {wide, -wide}, {wide + 1, 0}, {0, -wide - 1}, {farNumbers[0], farNumbers[0]}} {
			wantNoPair(t, impl.TurnPair(none[0], none[1], v[0], v[1]), "TurnPair", none, v)
			wantNoPair(t, impl.BackPair(none[0], none[1], v[0], v[1]), "BackPair", none, v)
		}
	}
	for _, r := range turnTable {
		for _, far := range beyondWide() {
			for _, v := range append(wideEdges(), far, -far) {
				for _, ab := range [][2]int64{{far, v}, {v, far}} {
					wantNoPair(t, impl.TurnPair(r.size, r.n, ab[0], ab[1]), "TurnPair", r, ab)
					wantNoPair(t, impl.BackPair(r.size, r.n, ab[0], ab[1]), "BackPair", r, ab)
				}
			}
		}
	}
}

// wantMixed asks both what they tell, and that each undoes the other.
func wantMixed(t *testing.T, a int64, b int64) {
	t.Helper()
	d := a - b
	wantPair(t, impl.MixPair(a, b), impl.PairResult{A: b + d>>1, B: d}, "MixPair", a, b)
	second := a - b>>1
	wantPair(t, impl.PartPair(a, b), impl.PairResult{A: second + b, B: second}, "PartPair", a, b)
	wantUndone(t, impl.MixPair, impl.PartPair, a, b, "MixPair")
	wantUndone(t, impl.PartPair, impl.MixPair, a, b, "PartPair")
}

func TestMixExamples(t *testing.T) {
	rows := []struct{ a, b, s, d int64 }{
		{0, 0, 0, 0}, {5, 2, 3, 3}, {2, 5, 3, -3}, {1, 0, 0, 1}, {0, 1, 0, -1}, {-1, 0, -1, -1}, {0, -1, -1, 1},
		{7, 7, 7, 0}, {-7, -7, -7, 0}, {-5, -2, -4, -3}, {-2, -5, -4, 3}, {4, -4, 0, 8}, {-4, 3, -1, -7}, {3, -4, -1, 7},
		{wide, wide, wide, 0}, {-wide, -wide, -wide, 0}, {wide, 0, wide / 2, wide}, {0, wide, wide / 2, -wide},
		{wide, 1, wide / 2, wide - 1}, {1, wide, wide / 2, 1 - wide}, {-wide, -1, -wide/2 - 1, 1 - wide}, {-1, -wide, -wide/2 - 1, wide - 1},
	}
	for _, r := range rows {
		wantPair(t, impl.MixPair(r.a, r.b), impl.PairResult{A: r.s, B: r.d}, "MixPair", r)
		wantPair(t, impl.PartPair(r.s, r.d), impl.PairResult{A: r.a, B: r.b}, "PartPair", r)
	}
	wantPair(t, impl.MixPair(wide, -wide), impl.PairResult{B: 2 * wide}, "MixPair of both ends")
	wantPair(t, impl.MixPair(-wide, wide), impl.PairResult{B: -2 * wide}, "MixPair of both ends")
	wantPair(t, impl.PartPair(wide, wide), impl.PairResult{A: wide + wide/2, B: wide / 2}, "PartPair of both ends")
	wantPair(t, impl.PartPair(-wide, -wide), impl.PairResult{A: -wide - wide/2, B: -wide / 2}, "PartPair of both ends")
	wantPair(t, impl.PartPair(wide, -wide), impl.PairResult{A: wide / 2, B: wide + wide/2}, "PartPair of both ends")
}

func TestMixSmall(t *testing.T) {
	for a := int64(-120); a <= 120; a++ {
		for b := int64(-120); b <= 120; b++ {
			wantMixed(t, a, b)
		}
	}
}

func TestMixEdgesAndAny(t *testing.T) {
	for _, a := range wideEdges() {
		for _, b := range wideEdges() {
			wantMixed(t, a, b)
		}
	}
	source := rand.New(rand.NewSource(52))
	for range 20000 {
		wantMixed(t, anyWide(source), anyWide(source))
	}
}

func TestMixFaults(t *testing.T) {
	for _, far := range beyondWide() {
		for _, v := range append(wideEdges(), far, -far) {
			for _, ab := range [][2]int64{{far, v}, {v, far}} {
				wantNoPair(t, impl.MixPair(ab[0], ab[1]), "MixPair", ab)
				wantNoPair(t, impl.PartPair(ab[0], ab[1]), "PartPair", ab)
			}
		}
	}
}

// turnsAt is all that the chapter's functions tell of their arguments.
func turnsAt(size int64, n int64, a int64, b int64) [5]impl.PairResult {
	return [5]impl.PairResult{impl.TurnOf(size, n), impl.TurnPair(size, n, a, b), impl.BackPair(size, n, a, b), impl.MixPair(a, b), impl.PartPair(a, b)}
}

// TestTurnsHangOnArguments: the same arguments have the same answers, whatever is asked between, in whatever order, and beside it.
func TestTurnsHangOnArguments(t *testing.T) {
	type call struct{ size, n, a, b int64 }
	var calls []call
	for _, size := range []int64{4, 5, 8, 16} {
		for n := int64(-1); n <= 8; n++ {
			for _, a := range []int64{-wide - 1, -wide, -3, 0, 511, wide} {
				for _, b := range []int64{-wide, -1, 0, 513, wide, wide + 1} {
					calls = append(calls, call{size, n, a, b})
				}
			}
		}
	}
	first := map[call][5]impl.PairResult{}
	for _, c := range calls {
		first[c] = turnsAt(c.size, c.n, c.a, c.b)
	}
	var group sync.WaitGroup
	for seed := range int64(4) {
		group.Go(func() {
			for _, i := range rand.New(rand.NewSource(seed)).Perm(len(calls)) {
				c := calls[i]
				if got := turnsAt(c.size, c.n, c.a, c.b); got != first[c] {
					t.Errorf("%v: first %v, then %v", c, first[c], got)
				}
			}
		})
	}
	group.Wait()
}
