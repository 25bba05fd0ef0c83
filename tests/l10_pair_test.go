package tests

import (
	"math/rand"
	"slices"
	"testing"

	"loop.example/g00657/impl"
)

// indexEnd and lastSpread are the document's MaxIndex and MaxSpread.
const (
	indexEnd   = int64(30000)
	lastSpread = 2
)

var (
	// spreadGaps are by how much an index may differ from what its first number tells, and its second one.
	spreadGaps = [lastSpread + 1][2]int64{{0, 0}, {1, 1}, {1, 2}}

	// noSpreads are the first numbers beyond, those that leave of some power of two what a spread leaves, and far ones.
	noSpreads = append([]int64{-1, -2, -3, lastSpread + 1, lastSpread + 2, 5, 255, 256, 257, 258, 65536, 65537, 1 << 32, 1<<32 + 1, 1<<32 + 2, -1 << 32, 1 - 1<<32}, farNumbers...)

	// noSides are so for the sides.
	noSides = append([]int64{-1, -2, 2, 3, 4, 255, 256, 257, 65536, 65537, 1 << 32, 1<<32 + 1, -1 << 32, 1 - 1<<32}, farNumbers...)

	// spreadTables has the two numbers of all indices, not turned, by the spread.
	spreadTables = [lastSpread + 1]spreadTable{newSpreadTable(0), newSpreadTable(1), newSpreadTable(2)}
)

// spreadTable has what the chapter tells of one spread, as lists that are made by counting: nothing is divided, and nothing rounded.
type spreadTable struct {
	numbers map[int64][2]int64
	indices map[[2]int64]int64
	cells   [2]map[int64][]int64
}

// newSpreadTable goes up from below the first index, t by t, and has all indices up from the first to the last one.
func newSpreadTable(k int) spreadTable {
	table := spreadTable{map[int64][2]int64{}, map[[2]int64]int64{}, [2]map[int64][]int64{{}, {}}}
	rows := [lastSpread + 1][][2]int64{{{0, 0}}, {{0, 0}, {1, 0}}, {{0, 0}, {0, 1}, {1, 0}}}[k]
	for t := -indexEnd - 1; t <= indexEnd; t++ {
		for rest, row := range rows {
			q, two := t*int64(len(rows))+int64(rest), [2]int64{t + row[0], t + row[1]}
			if q < -indexEnd || q > indexEnd {
				continue
			}
			table.numbers[q], table.indices[two] = two, q
			for i, v := range two {
				table.cells[i][v] = append(table.cells[i][v], q)
			}
		}
	}
	return table
}

// sidesOf has first what side 0 has.
func sidesOf(two [2]int64, turned bool) [2]int64 {
	if turned {
		return [2]int64{two[1], two[0]}
	}
	return two
}

// whichOf is which of the two numbers a side has: the first one is 0.
func whichOf(side int, turned bool) int {
	if turned {
		return 1 - side
	}
	return side
}

// joinedOf is the answer to a right call.
func joinedOf(a int64, b int64, k int, turned bool) impl.IntResult {
	q, isThere := spreadTables[k].indices[sidesOf([2]int64{a, b}, turned)]
	if !isThere {
		return impl.IntResult{Code: impl.ErrNone}
	}
	return impl.IntResult{Value: q}
}

func cellOf(side int, v int64, k int, turned bool) []int64 {
	return spreadTables[k].cells[whichOf(side, turned)][v]
}

// forDeals asks with each spread, turned and not.
func forDeals(ask func(k int, turned bool)) {
	for k := range lastSpread + 1 {
		for _, turned := range []bool{false, true} {
			ask(k, turned)
		}
	}
}

// wantSplit asks the numbers of an index and holds what each side tells of it alone, and both together, against the index.
func wantSplit(t *testing.T, q int64, k int, turned bool) {
	t.Helper()
	want := sidesOf(spreadTables[k].numbers[q], turned)
	got := impl.SplitIndex(q, int64(k), turned)
	wantPair(t, got, impl.PairResult{A: want[0], B: want[1]}, "SplitIndex", q, k, turned)
	wantInt(t, impl.JoinIndex(got.A, got.B, int64(k), turned), impl.OK, q, "JoinIndex", got, k, turned)
	for side, v := range []int64{got.A, got.B} {
		told := impl.SideIndex(int64(side), v, int64(k), turned)
		gap := impl.SpreadOf(int64(side), int64(k), turned)
		if told.Code != impl.OK || gap.Code != impl.OK || max(told.Value-q, q-told.Value) > gap.Value {
			t.Errorf("%d with %d, %v: the side %d tells %+v, which is off by more than %+v", q, k, turned, side, told, gap)
		}
		if cell := impl.CellOf(int64(side), v, int64(k), turned); !slices.Contains(cell.List, q) {
			t.Errorf("%d with %d, %v: it is not in %+v, the cell of %d on the side %d", q, k, turned, cell, v, side)
		}
	}
}

// wantCell asks a right number, and each index of its cell whether it has this number.
func wantCell(t *testing.T, side int, v int64, k int, turned bool) {
	t.Helper()
	got := impl.CellOf(int64(side), v, int64(k), turned)
	wantInts(t, got, impl.OK, cellOf(side, v, k, turned), "CellOf", side, v, k, turned)
	for i, q := range got.List {
		two := impl.SplitIndex(q, int64(k), turned)
		if has := []int64{two.A, two.B}[side]; two.Code != impl.OK || has != v {
			t.Errorf("%d is in the cell of %d on the side %d with %d, %v, and has %+v", q, v, side, k, turned, two)
		}
		if i > 0 && got.List[i-1] >= q {
			t.Errorf("the cell of %d on the side %d with %d, %v does not rise: %v", v, side, k, turned, got.List)
		}
	}
}

// fromTo has all numbers from low to high.
func fromTo(low int64, high int64) []int64 {
	var list []int64
	for v := low; v <= high; v++ {
		list = append(list, v)
	}
	return list
}

func TestPairConstants(t *testing.T) {
	if impl.MaxSpread != lastSpread || impl.MaxIndex != indexEnd {
		t.Error(impl.MaxSpread, impl.MaxIndex)
	}
}

// TestSplitExamples: all rests of a division by 2 and by 3, above 0 and below 0, and both ends, written out.
func TestSplitExamples(t *testing.T) {
	rows := []struct{ q, k, first, second int64 }{
		{0, 0, 0, 0}, {1, 0, 1, 1}, {-1, 0, -1, -1}, {7, 0, 7, 7}, {-7, 0, -7, -7}, {30000, 0, 30000, 30000}, {-30000, 0, -30000, -30000},
		{-5, 1, -2, -3}, {-4, 1, -2, -2}, {-3, 1, -1, -2}, {-2, 1, -1, -1}, {-1, 1, 0, -1}, {0, 1, 0, 0}, {1, 1, 1, 0}, {2, 1, 1, 1}, {3, 1, 2, 1}, {4, 1, 2, 2}, {7, 1, 4, 3},
		{30000, 1, 15000, 15000}, {29999, 1, 15000, 14999}, {-30000, 1, -15000, -15000}, {-29999, 1, -14999, -15000},
		{-7, 2, -2, -3}, {-6, 2, -2, -2}, {-5, 2, -2, -1}, {-4, 2, -1, -2}, {-3, 2, -1, -1}, {-2, 2, -1, 0}, {-1, 2, 0, -1},
		{0, 2, 0, 0}, {1, 2, 0, 1}, {2, 2, 1, 0}, {3, 2, 1, 1}, {4, 2, 1, 2}, {5, 2, 2, 1}, {6, 2, 2, 2}, {7, 2, 2, 3}, {8, 2, 3, 2},
		{30000, 2, 10000, 10000}, {29999, 2, 10000, 9999}, {29998, 2, 9999, 10000}, {-30000, 2, -10000, -10000}, {-29999, 2, -10000, -9999}, {-29998, 2, -9999, -10000},
	}
	for _, r := range rows {
		wantPair(t, impl.SplitIndex(r.q, r.k, false), impl.PairResult{A: r.first, B: r.second}, "SplitIndex", r)
		wantPair(t, impl.SplitIndex(r.q, r.k, true), impl.PairResult{A: r.second, B: r.first}, "SplitIndex, turned", r)
		wantInt(t, impl.JoinIndex(r.first, r.second, r.k, false), impl.OK, r.q, "JoinIndex", r)
		wantInt(t, impl.JoinIndex(r.second, r.first, r.k, true), impl.OK, r.q, "JoinIndex, turned", r)
	}
}

func TestSplitAll(t *testing.T) {
	for k, table := range spreadTables {
		if len(table.numbers) != 60001 || len(table.indices) != 60001 {
			t.Fatal(k, len(table.numbers), len(table.indices))
		}
	}
	forDeals(func(k int, turned bool) {
		for _, q := range fromTo(-indexEnd, indexEnd) {
			wantSplit(t, q, k, turned)
		}
	})
}

// TestSplitByHalves: with the spread 1 the numbers are together the index, and differ by 0 or 1.
func TestSplitByHalves(t *testing.T) {
	for _, q := range fromTo(-indexEnd, indexEnd) {
		got := impl.SplitIndex(q, 1, false)
		if got.A+got.B != q || got.A-got.B < 0 || got.A-got.B > 1 {
			t.Errorf("%d: %+v", q, got)
		}
	}
}

// TestSplitByThirds: with the spread 2 the numbers are the same, or one of them is one more: which one that is tells the rest.
func TestSplitByThirds(t *testing.T) {
	for _, q := range fromTo(-indexEnd, indexEnd) {
		got := impl.SplitIndex(q, 2, false)
		rest, isNear := map[int64]int64{0: 0, -1: 1, 1: 2}[got.A-got.B]
		if !isNear || 3*min(got.A, got.B)+rest != q {
			t.Errorf("%d: %+v", q, got)
		}
	}
}

func TestSplitFaults(t *testing.T) {
	forDeals(func(k int, turned bool) {
		for _, q := range beyond(indexEnd) {
			wantNoPair(t, impl.SplitIndex(q, int64(k), turned), "SplitIndex", q, k, turned)
		}
	})
	for _, k := range noSpreads {
		for _, q := range append([]int64{0, 1, -1, 7, indexEnd, -indexEnd}, beyond(indexEnd)...) {
			wantNoPair(t, impl.SplitIndex(q, k, false), "SplitIndex", q, k)
			wantNoPair(t, impl.SplitIndex(q, k, true), "SplitIndex, turned", q, k)
		}
	}
}

func TestJoinExamples(t *testing.T) {
	rows := []struct{ a, b, k int64 }{
		{0, 1, 0}, {1, 0, 0}, {4, -4, 0}, {30000, -30000, 0}, {30000, 29999, 0},
		{0, 1, 1}, {3, 4, 1}, {2, 0, 1}, {4, 2, 1}, {-1, 0, 1}, {-3, -2, 1}, {0, -2, 1},
		{15001, 15000, 1}, {15001, 15001, 1}, {-15000, -15001, 1}, {-15001, -15001, 1}, {30000, 30000, 1}, {-30000, -30000, 1}, {30000, -30000, 1}, {-30000, 30000, 1},
		{2, 5, 2}, {0, 2, 2}, {2, 0, 2}, {-1, 1, 2}, {1, -1, 2}, {-2, -4, 2}, {-4, -2, 2},
		{10000, 10001, 2}, {10001, 10000, 2}, {10001, 10001, 2}, {-10001, -10000, 2}, {-10000, -10001, 2}, {-10001, -10001, 2}, {30000, 30000, 2}, {30000, 29999, 2}, {-30000, -30000, 2}, {-30000, 30000, 2},
	}
	for _, r := range rows {
		wantInt(t, impl.JoinIndex(r.a, r.b, r.k, false), impl.ErrNone, 0, "JoinIndex", r)
		wantInt(t, impl.JoinIndex(r.b, r.a, r.k, true), impl.ErrNone, 0, "JoinIndex, turned", r)
	}
}

// TestJoinNear: all numbers near 0, near the last ones that indices have with each spread, and near both ends; with each other.
func TestJoinNear(t *testing.T) {
	list := slices.Concat(fromTo(-40, 40), fromTo(9990, 10010), fromTo(14990, 15010), fromTo(29990, 30000), fromTo(-10010, -9990), fromTo(-15010, -14990), fromTo(-30000, -29990))
	seen := map[int64]int{}
	forDeals(func(k int, turned bool) {
		for _, a := range list {
			for _, b := range list {
				want := joinedOf(a, b, k, turned)
				seen[want.Code]++
				wantInt(t, impl.JoinIndex(a, b, int64(k), turned), want.Code, want.Value, "JoinIndex", a, b, k, turned)
			}
		}
	})
	if len(seen) != 2 || seen[impl.OK] == 0 || seen[impl.ErrNone] == 0 {
		t.Error(seen)
	}
}

func TestJoinAny(t *testing.T) {
	r := rand.New(rand.NewSource(101))
	forDeals(func(k int, turned bool) {
		for range 20000 {
			a := anyList(r, 1, indexEnd)[0]
			b := anyList(r, 1, indexEnd)[0]
			if r.Intn(4) > 0 {
				b = min(max(a+r.Int63n(7)-3, -indexEnd), indexEnd)
			}
			want := joinedOf(a, b, k, turned)
			wantInt(t, impl.JoinIndex(a, b, int64(k), turned), want.Code, want.Value, "JoinIndex", a, b, k, turned)
		}
	})
}

// TestJoinFaults: each wrong argument beside right ones, beside pairs that no index has, and beside other wrong ones.
func TestJoinFaults(t *testing.T) {
	for _, turned := range []bool{false, true} {
		for _, far := range beyond(indexEnd) {
			for _, v := range append([]int64{0, 1, -1, 15000, indexEnd, -indexEnd}, far, -far, far-1, far+1) {
				for _, k := range append([]int64{0, 1, 2}, noSpreads...) {
					wantInt(t, impl.JoinIndex(far, v, k, turned), impl.ErrRange, 0, "JoinIndex", far, v, k, turned)
					wantInt(t, impl.JoinIndex(v, far, k, turned), impl.ErrRange, 0, "JoinIndex", v, far, k, turned)
				}
			}
		}
		for _, k := range noSpreads {
			for _, ab := range [][2]int64{{0, 0}, {4, 4}, {4, 3}, {3, 4}, {2, 5}, {indexEnd, indexEnd}, {indexEnd, -indexEnd}} {
				wantInt(t, impl.JoinIndex(ab[0], ab[1], k, turned), impl.ErrRange, 0, "JoinIndex", ab, k, turned)
			}
		}
	}
}

// TestSideIndexAll: all numbers, those as well that no index has, and those whose product is beyond the last index.
func TestSideIndexAll(t *testing.T) {
	forDeals(func(k int, turned bool) {
		for side := range int64(2) {
			for _, v := range fromTo(-indexEnd, indexEnd) {
				wantInt(t, impl.SideIndex(side, v, int64(k), turned), impl.OK, v*int64(k+1), "SideIndex", side, v, k, turned)
			}
		}
	})
}

func TestSideIndexExamples(t *testing.T) {
	rows := []struct{ v, k, q int64 }{
		{0, 0, 0}, {3, 0, 3}, {3, 1, 6}, {3, 2, 9}, {-3, 0, -3}, {-3, 1, -6}, {-3, 2, -9}, {15000, 1, 30000}, {10000, 2, 30000},
		{15001, 1, 30002}, {10001, 2, 30003}, {30000, 0, 30000}, {30000, 1, 60000}, {30000, 2, 90000}, {-30000, 1, -60000}, {-30000, 2, -90000},
	}
	for _, r := range rows {
		for side := range int64(2) {
			wantInt(t, impl.SideIndex(side, r.v, r.k, false), impl.OK, r.q, "SideIndex", side, r)
			wantInt(t, impl.SideIndex(side, r.v, r.k, true), impl.OK, r.q, "SideIndex, turned", side, r)
		}
	}
}

// TestSpreadsAreReached: by just as much as is told some index differs from what its number tells, and none by more.
func TestSpreadsAreReached(t *testing.T) {
	forDeals(func(k int, turned bool) {
		var most [2]int64
		for _, q := range fromTo(-indexEnd, indexEnd) {
			two := impl.SplitIndex(q, int64(k), turned)
			for side, v := range []int64{two.A, two.B} {
				told := impl.SideIndex(int64(side), v, int64(k), turned).Value
				most[side] = max(most[side], told-q, q-told)
			}
		}
		for side, gap := range most {
			wantInt(t, impl.SpreadOf(int64(side), int64(k), turned), impl.OK, gap, "SpreadOf", side, k, turned)
			wantInt(t, impl.SpreadOf(int64(side), int64(k), turned), impl.OK, spreadGaps[k][whichOf(side, turned)], "SpreadOf by words", side, k, turned)
		}
	})
}

func TestSpreadOfExamples(t *testing.T) {
	rows := []struct {
		side, k int64
		turned  bool
		gap     int64
	}{
		{0, 0, false, 0}, {1, 0, false, 0}, {0, 0, true, 0}, {1, 0, true, 0},
		{0, 1, false, 1}, {1, 1, false, 1}, {0, 1, true, 1}, {1, 1, true, 1},
		{0, 2, false, 1}, {1, 2, false, 2}, {0, 2, true, 2}, {1, 2, true, 1},
	}
	for _, r := range rows {
		wantInt(t, impl.SpreadOf(r.side, r.k, r.turned), impl.OK, r.gap, "SpreadOf", r)
	}
}

func TestCellExamples(t *testing.T) {
	rows := []struct {
		which int
		v, k  int64
		cell  []int64
	}{
		{0, 3, 0, []int64{3}}, {1, 3, 0, []int64{3}}, {0, -3, 0, []int64{-3}}, {1, 30000, 0, []int64{30000}}, {0, -30000, 0, []int64{-30000}},
		{0, 3, 1, []int64{5, 6}}, {1, 3, 1, []int64{6, 7}}, {0, 0, 1, []int64{-1, 0}}, {1, 0, 1, []int64{0, 1}}, {0, -1, 1, []int64{-3, -2}}, {1, -1, 1, []int64{-2, -1}},
		{0, 15000, 1, []int64{29999, 30000}}, {1, 15000, 1, []int64{30000}}, {0, -15000, 1, []int64{-30000}}, {1, -15000, 1, []int64{-30000, -29999}},
		{0, 15001, 1, nil}, {1, 15001, 1, nil}, {0, -15001, 1, nil}, {1, -15001, 1, nil}, {0, 30000, 1, nil}, {1, -30000, 1, nil},
		{0, 3, 2, []int64{8, 9, 10}}, {1, 3, 2, []int64{7, 9, 11}}, {0, 0, 2, []int64{-1, 0, 1}}, {1, 0, 2, []int64{-2, 0, 2}}, {0, -1, 2, []int64{-4, -3, -2}}, {1, -1, 2, []int64{-5, -3, -1}},
		{0, 10000, 2, []int64{29999, 30000}}, {1, 10000, 2, []int64{29998, 30000}}, {0, -10000, 2, []int64{-30000, -29999}}, {1, -10000, 2, []int64{-30000, -29998}},
		{0, 10001, 2, nil}, {1, 10001, 2, nil}, {0, -10001, 2, nil}, {1, -10001, 2, nil}, {0, -30000, 2, nil}, {1, 30000, 2, nil},
	}
	for _, r := range rows {
		wantInts(t, impl.CellOf(int64(r.which), r.v, r.k, false), impl.OK, r.cell, "CellOf", r)
		wantInts(t, impl.CellOf(int64(1-r.which), r.v, r.k, true), impl.OK, r.cell, "CellOf, turned", r)
	}
}

// TestCellsAll: the cell of each number, those as well that no index has; each index is in just one of them on each side.
func TestCellsAll(t *testing.T) {
	forDeals(func(k int, turned bool) {
		for side := range 2 {
			count := map[int64]int{}
			for _, v := range fromTo(-indexEnd, indexEnd) {
				wantCell(t, side, v, k, turned)
				for _, q := range impl.CellOf(int64(side), v, int64(k), turned).List {
					count[q]++
				}
			}
			for _, q := range fromTo(-indexEnd, indexEnd) {
				if count[q] != 1 {
					t.Errorf("%d is in %d cells of the side %d with %d, %v", q, count[q], side, k, turned)
				}
			}
			if len(count) != 60001 {
				t.Errorf("%d numbers are in the cells of the side %d with %d, %v", len(count), side, k, turned)
			}
		}
	})
}

// TestCellsMeet: the cells of both numbers have just their index in common, or, where no index has both, none.
func TestCellsMeet(t *testing.T) {
	r := rand.New(rand.NewSource(102))
	forDeals(func(k int, turned bool) {
		for range 5000 {
			a := r.Int63n(2*indexEnd+1) - indexEnd
			if r.Intn(2) == 0 {
				a /= int64(k + 1)
			}
			b := min(max(a+r.Int63n(5)-2, -indexEnd), indexEnd)
			second := impl.CellOf(1, b, int64(k), turned).List
			both := slices.DeleteFunc(impl.CellOf(0, a, int64(k), turned).List, func(q int64) bool { return !slices.Contains(second, q) })
			want := impl.IntResult{Code: impl.ErrNone}
			if len(both) > 0 {
				want = impl.IntResult{Value: both[0]}
			}
			if got := impl.JoinIndex(a, b, int64(k), turned); got != want || len(both) > 1 {
				t.Errorf("JoinIndex of %d, %d with %d, %v: got %+v, and the cells have %v", a, b, k, turned, got, both)
			}
		}
	})
}

// wantNoSide asks all that has sides with something that is wrong; SpreadOf is asked no number.
func wantNoSide(t *testing.T, side int64, v int64, k int64, hasGap bool) {
	t.Helper()
	for _, turned := range []bool{false, true} {
		wantInt(t, impl.SideIndex(side, v, k, turned), impl.ErrRange, 0, "SideIndex", side, v, k, turned)
		wantInts(t, impl.CellOf(side, v, k, turned), impl.ErrRange, nil, "CellOf", side, v, k, turned)
		if got := impl.SpreadOf(side, k, turned); (got.Code == impl.OK) != hasGap || !hasGap && got != (impl.IntResult{Code: impl.ErrRange}) {
			t.Errorf("SpreadOf %d, %d, %v: got %+v", side, k, turned, got)
		}
	}
}

// TestSideFaults: each wrong argument alone, and all of them together.
func TestSideFaults(t *testing.T) {
	numbers := []int64{0, 1, -1, 3, 15001, indexEnd, -indexEnd}
	for _, v := range append(numbers, beyond(indexEnd)...) {
		for _, side := range noSides {
			for _, k := range append([]int64{0, 1, 2}, noSpreads...) {
				wantNoSide(t, side, v, k, false)
			}
		}
		for _, k := range noSpreads {
			wantNoSide(t, 0, v, k, false)
			wantNoSide(t, 1, v, k, false)
		}
	}
	for _, v := range beyond(indexEnd) {
		for k := range int64(lastSpread + 1) {
			wantNoSide(t, 0, v, k, true)
			wantNoSide(t, 1, v, k, true)
		}
	}
}

// TestCellsAreNew: the memory of one cell, and what lies behind its end, is no other one's.
func TestCellsAreNew(t *testing.T) {
	forDeals(func(k int, turned bool) {
		for side := range int64(2) {
			for _, v := range []int64{0, 1, -1, 3, -3, 9999, 10000, -10000, 15000, -15000, 15001, indexEnd, -indexEnd} {
				wantOwn(t, func() []int64 { return impl.CellOf(side, v, int64(k), turned).List }, slices.Equal, "CellOf")
			}
		}
	})
}

// pairCall is what is asked of all functions of the chapter together.
type pairCall struct {
	side, a, b, k int64
	turned        bool
}

type pairAnswers struct {
	split  impl.PairResult
	others [3]impl.IntResult
}

func (c pairCall) answers() (pairAnswers, []impl.IntsResult) {
	others := [3]impl.IntResult{impl.JoinIndex(c.a, c.b, c.k, c.turned), impl.SideIndex(c.side, c.a, c.k, c.turned), impl.SpreadOf(c.side, c.k, c.turned)}
	return pairAnswers{impl.SplitIndex(c.a, c.k, c.turned), others}, []impl.IntsResult{impl.CellOf(c.side, c.b, c.k, c.turned)}
}

// pairCalls are right ones and wrong ones.
func pairCalls() []pairCall {
	r := rand.New(rand.NewSource(103))
	var calls []pairCall
	for side := int64(-1); side <= 2; side++ {
		for k := int64(-1); k <= lastSpread+1; k++ {
			for _, a := range append([]int64{0, -7, 10000, 15000, indexEnd, -indexEnd, indexEnd + 1, farNumbers[0]}, anyList(r, 10, indexEnd)...) {
				for gap := int64(-1); gap <= 2; gap++ {
					calls = append(calls, pairCall{side, a, a + gap, k, r.Intn(2) == 0})
				}
			}
		}
	}
	return calls
}

// TestPairsHangOnArguments: whatever is asked between, in whatever order, and beside it.
func TestPairsHangOnArguments(t *testing.T) {
	wantSameAnswers(t, pairCalls(), pairCall.answers)
}
