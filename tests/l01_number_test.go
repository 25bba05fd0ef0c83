package tests

import (
	"math"
	"math/big"
	"slices"
	"testing"

	"loop.example/g00657/impl"
)

// floorOf divides by numbers of any length, rounded down; under is above 0.
func floorOf(a *big.Int, under *big.Int) *big.Int {
	return new(big.Int).Div(a, under) // Euclid's division, which is rounded down for under above 0
}

// nearestOf asks each whole number beside a divided by b how far it is, and takes the farther one from 0 of two that are as near.
func nearestOf(a int64, b int64) int64 {
	x, y := big.NewInt(a), big.NewInt(b)
	low := floorOf(x, y)
	best, least := int64(0), (*big.Int)(nil)
	for _, step := range []int64{-1, 0, 1, 2} {
		q := new(big.Int).Add(low, big.NewInt(step))
		gap := new(big.Int).Sub(x, new(big.Int).Mul(q, y))
		gap.Abs(gap)
		nearer := least == nil || gap.Cmp(least) < 0
		if !nearer && gap.Cmp(least) == 0 {
			nearer = new(big.Int).Abs(q).Cmp(new(big.Int).Abs(big.NewInt(best))) > 0
		}
		if nearer {
			best, least = q.Int64(), gap
		}
	}
	return best
}

func ceilOf(a int64, b int64) int64 {
	up := floorOf(new(big.Int).Neg(big.NewInt(a)), big.NewInt(b))
	return -up.Int64()
}

func tenOf(v int64) int64 {
	return floorOf(big.NewInt(v+512), big.NewInt(1024)).Int64()
}

func TestCodesAndConstants(t *testing.T) {
	codes := []int64{impl.OK, impl.ErrForm, impl.ErrMany, impl.ErrRange, impl.ErrNone, impl.ErrText, impl.ErrTaken, impl.ErrFull, impl.ErrState, impl.ErrLate, impl.ErrSum}
	for i, c := range codes {
		wantCode(t, c, int64(i), "code")
	}
	if impl.MaxSample != 32767 || impl.MinSample != -32768 || impl.MaxTop != 1<<40 || impl.MaxUnder != 1<<25 {
		t.Error("constants")
	}
}

func TestClamp16(t *testing.T) {
	for v := int64(-70000); v <= 70000; v++ {
		want := v
		if v < -32768 {
			want = -32768
		} else if v > 32767 {
			want = 32767
		}
		wantCode(t, impl.Clamp16(v), want, "Clamp16", v)
	}
	for _, v := range farNumbers {
		want := int64(32767)
		if v < 0 {
			want = -32768
		}
		wantCode(t, impl.Clamp16(v), want, "Clamp16", v)
	}
}

func TestRoundDivSmall(t *testing.T) {
	for b := int64(1); b <= 40; b++ {
		for a := int64(-200); a <= 200; a++ {
			wantInt(t, impl.RoundDiv(a, b), impl.OK, nearestOf(a, b), "RoundDiv", a, b)
		}
	}
}

func TestRoundDivExamples(t *testing.T) {
	rows := []struct{ a, b, want int64 }{
		{0, 1, 0}, {0, impl.MaxUnder, 0}, {7, 2, 4}, {-7, 2, -4}, {1, 2, 1}, {-1, 2, -1}, {3, 2, 2}, {-3, 2, -2},
		{5, 10, 1}, {4, 10, 0}, {6, 10, 1}, {-5, 10, -1}, {-4, 10, 0}, {-6, 10, -1}, {25, 10, 3}, {-25, 10, -3},
		{1, 3, 0}, {2, 3, 1}, {-1, 3, 0}, {-2, 3, -1},
		{impl.MaxTop, 1, impl.MaxTop}, {-impl.MaxTop, 1, -impl.MaxTop},
		{impl.MaxTop, impl.MaxUnder, 32768}, {-impl.MaxTop, impl.MaxUnder, -32768},
		{impl.MaxUnder / 2, impl.MaxUnder, 1}, {impl.MaxUnder/2 - 1, impl.MaxUnder, 0},
		{-impl.MaxUnder / 2, impl.MaxUnder, -1}, {-impl.MaxUnder/2 + 1, impl.MaxUnder, 0},
	}
	for _, r := range rows {
		wantInt(t, impl.RoundDiv(r.a, r.b), impl.OK, r.want, "RoundDiv", r.a, r.b)
	}
}

// TestRoundDivHalves goes to the halves of great numbers, and to what is just beside them.
func TestRoundDivHalves(t *testing.T) {
	for _, b := range []int64{1, 2, 3, 4, 5, 1023, 1024, 32768, impl.MaxUnder - 1, impl.MaxUnder} {
		for _, q := range []int64{0, 1, 2, 3, 1000, 32766} {
			for _, a := range besides(q*b+b/2, q*b+b/2+1, q*b) {
				wantInt(t, impl.RoundDiv(a, b), impl.OK, nearestOf(a, b), "RoundDiv", a, b)
				wantInt(t, impl.RoundDiv(-a, b), impl.OK, nearestOf(-a, b), "RoundDiv", -a, b)
			}
		}
	}
}

func TestCeilDivSmall(t *testing.T) {
	for b := int64(1); b <= 40; b++ {
		for a := int64(0); a <= 400; a++ {
			wantInt(t, impl.CeilDiv(a, b), impl.OK, ceilOf(a, b), "CeilDiv", a, b)
		}
	}
}

func TestCeilDivExamples(t *testing.T) {
	rows := []struct{ a, b, want int64 }{
		{0, 1, 0}, {0, impl.MaxUnder, 0}, {7, 2, 4}, {6, 2, 3}, {1, impl.MaxUnder, 1},
		{impl.MaxTop, 1, impl.MaxTop}, {impl.MaxTop, impl.MaxUnder, 32768}, {impl.MaxTop - 1, impl.MaxUnder, 32768},
		{impl.MaxUnder, impl.MaxUnder, 1}, {impl.MaxUnder + 1, impl.MaxUnder, 2}, {impl.MaxTop, 3, 366503875926},
	}
	for _, r := range rows {
		wantInt(t, impl.CeilDiv(r.a, r.b), impl.OK, r.want, "CeilDiv", r.a, r.b)
	}
}

// TestDivideBounds asks both divisions at both ends of each bound, at the first number beyond each, and far away.
func TestDivideBounds(t *testing.T) {
	tops := append(besides(-impl.MaxTop, 0, impl.MaxTop), farNumbers...)
	unders := append(besides(-impl.MaxUnder, 0, impl.MaxUnder), farNumbers...)
	for _, a := range tops {
		for _, b := range unders {
			code, value := int64(impl.ErrRange), int64(0)
			if a >= -impl.MaxTop && a <= impl.MaxTop && b >= 1 && b <= impl.MaxUnder {
				code, value = impl.OK, nearestOf(a, b)
			}
			wantInt(t, impl.RoundDiv(a, b), code, value, "RoundDiv", a, b)
			if code == impl.OK && a >= 0 {
				wantInt(t, impl.CeilDiv(a, b), impl.OK, ceilOf(a, b), "CeilDiv", a, b)
			} else {
				wantInt(t, impl.CeilDiv(a, b), impl.ErrRange, 0, "CeilDiv", a, b)
			}
		}
	}
}

func TestTenOf(t *testing.T) {
	for v := int64(-5000); v <= 5000; v++ {
		wantInt(t, impl.TenOf(v), impl.OK, tenOf(v), "TenOf", v)
	}
	rows := []struct{ v, want int64 }{
		{0, 0}, {511, 0}, {512, 1}, {1535, 1}, {1536, 2}, {-512, 0}, {-513, -1}, {-1536, -1}, {-1537, -2},
		{impl.MaxTop, 1 << 30}, {-impl.MaxTop, -(1 << 30)}, {impl.MaxTop - 512, 1 << 30}, {impl.MaxTop - 513, 1<<30 - 1},
		{-impl.MaxTop + 511, -(1 << 30)}, {-impl.MaxTop + 512, -(1 << 30) + 1},
	}
	for _, r := range rows {
		wantInt(t, impl.TenOf(r.v), impl.OK, r.want, "TenOf", r.v)
	}
	for _, v := range append([]int64{impl.MaxTop + 1, -impl.MaxTop - 1, math.MaxInt64 - 511}, math.MinInt64, math.MaxInt64) {
		wantInt(t, impl.TenOf(v), impl.ErrRange, 0, "TenOf", v)
	}
}

func TestNormOf(t *testing.T) {
	rows := []struct {
		list []int64
		want int64
	}{
		{nil, 0}, {[]int64{}, 0}, {[]int64{0}, 0}, {[]int64{3, -4}, 7}, {[]int64{-3, 4}, 7}, {[]int64{-1}, 1},
		{[]int64{5, -5}, 10}, {[]int64{impl.MaxTop}, impl.MaxTop}, {[]int64{-impl.MaxTop}, impl.MaxTop},
		{filled(64, 1), 64}, {filled(64, impl.MaxTop), 64 * impl.MaxTop}, {filled(64, -impl.MaxTop), 64 * impl.MaxTop},
		{filled(63, -2), 126},
	}
	for _, r := range rows {
		wantInt(t, impl.NormOf(r.list), impl.OK, r.want, "NormOf", r.list)
	}
}

func TestNormOfFaults(t *testing.T) {
	wrong := append([]int64{impl.MaxTop + 1, -impl.MaxTop - 1}, math.MinInt64, math.MaxInt64)
	for _, v := range wrong {
		for _, n := range []int{1, 2, 64} {
			for at := range n {
				wantInt(t, impl.NormOf(withAt(filled(n, 1), at, v)), impl.ErrRange, 0, "NormOf", n, at, v)
			}
		}
		wantInt(t, impl.NormOf(filled(65, v)), impl.ErrMany, 0, "NormOf", 65, v)
	}
	for _, n := range []int{65, 66, 128, 1000} {
		wantInt(t, impl.NormOf(make([]int64, n)), impl.ErrMany, 0, "NormOf", n)
	}
}

func TestSizeFault(t *testing.T) {
	for size := int64(-40); size <= 300; size++ {
		want := int64(impl.ErrRange)
		if size == 4 || size == 8 || size == 16 {
			want = impl.OK
		}
		wantCode(t, impl.SizeFault(size), want, "SizeFault", size)
	}
	for _, size := range append([]int64{1<<32 + 4, 1<<32 + 16}, farNumbers...) {
		wantCode(t, impl.SizeFault(size), impl.ErrRange, "SizeFault", size)
	}
}

func TestSamplesFault(t *testing.T) {
	for _, size := range []int64{4, 8, 16} {
		for _, v := range []int64{0, 1, -1, impl.MaxSample, impl.MinSample} {
			wantCode(t, impl.SamplesFault(size, filled(int(size), v)), impl.OK, "SamplesFault", size, v)
		}
		for _, v := range []int64{impl.MaxSample + 1, impl.MinSample - 1, math.MinInt64, math.MaxInt64} {
			for at := range int(size) {
				wantCode(t, impl.SamplesFault(size, withAt(filled(int(size), 5), at, v)), impl.ErrRange, "SamplesFault", size, at, v)
			}
		}
	}
}

// TestSamplesFaultOrder: a wrong size is told ahead of a wrong length, and that ahead of a number that is no sample.
func TestSamplesFaultOrder(t *testing.T) {
	sizes := append([]int64{-4, 0, 1, 3, 4, 5, 7, 8, 9, 15, 16, 17, 32}, farNumbers...)
	for _, size := range sizes {
		for n := range 34 {
			for _, v := range []int64{0, impl.MaxSample + 1, impl.MinSample - 1} {
				want := int64(impl.OK)
				switch {
				case size != 4 && size != 8 && size != 16:
					want = impl.ErrRange
				case int64(n) != size:
					want = impl.ErrMany
				case v != 0:
					want = impl.ErrRange
				}
				wantCode(t, impl.SamplesFault(size, filled(n, v)), want, "SamplesFault", size, n, v)
			}
		}
	}
	wantCode(t, impl.SamplesFault(4, nil), impl.ErrMany, "SamplesFault of nil")
	wantCode(t, impl.SamplesFault(5, nil), impl.ErrRange, "SamplesFault of nil")
}

// TestNumbersChangeNothing: lists stay as they were, right and wrong ones, and so does what lies behind them.
func TestNumbersChangeNothing(t *testing.T) {
	lists := [][]int64{{}, {-1}, {3, -4, 5, -6}, {1, 2, 3, 40000}, {math.MinInt64, 1, 2, 3}, filled(8, -9), filled(16, -32768), filled(64, -3), filled(65, -3)}
	for _, list := range lists {
		inside, whole := guarded(list)
		before := slices.Clone(whole)
		impl.NormOf(inside)
		for _, size := range []int64{4, 5, 8, 16} {
			impl.SamplesFault(size, inside)
		}
		if !slices.Equal(whole, before) {
			t.Errorf("%v became %v", before, whole)
		}
	}
}

// numbersAt is all that the chapter's functions tell of a, b and list.
func numbersAt(a int64, b int64, list []int64) [7]impl.IntResult {
	return [7]impl.IntResult{
		{Value: impl.Clamp16(a)}, impl.RoundDiv(a, b), impl.CeilDiv(a, b), impl.TenOf(a), impl.NormOf(list),
		{Code: impl.SizeFault(b)}, {Code: impl.SamplesFault(b, list)},
	}
}

// TestNumbersHangOnArguments: the same arguments have the same answers, whatever was asked between.
func TestNumbersHangOnArguments(t *testing.T) {
	tops := append(besides(-impl.MaxTop, -513, 0, 7, impl.MaxTop), farNumbers...)
	unders := append(besides(-3, 1, 4, 8, 16, impl.MaxUnder), farNumbers...)
	lists := [][]int64{nil, {}, {1, -2, 3, -4}, filled(8, 40000), filled(16, -1), filled(65, 1)}
	type call struct{ a, b, list int }
	first := map[call][7]impl.IntResult{}
	for round := range 2 {
		for i, a := range tops {
			for j, b := range unders {
				for k, list := range lists {
					got, at := numbersAt(a, b, list), call{i, j, k}
					if round == 0 {
						first[at] = got
					} else if first[at] != got {
						t.Fatalf("%d, %d, %v: first %v, then %v", a, b, list, first[at], got)
					}
				}
				if first[call{i, j, 0}] != first[call{i, j, 1}] {
					t.Fatalf("%d, %d: nil and an empty list differ", a, b)
				}
			}
		}
	}
}
