package tests

import (
	"math"
	"math/rand"
	"slices"
	"sync"
	"testing"

	"loop.example/g00657/impl"
)

// farNumbers lie where careless sums and signs overflow.
var farNumbers = []int64{math.MinInt64, math.MinInt64 + 1, math.MinInt64 / 2, math.MinInt32, math.MaxInt32, math.MaxInt64 / 2, math.MaxInt64 - 1, math.MaxInt64}

// besides tells each number with the ones next to it.
func besides(list ...int64) []int64 {
	var out []int64
	for _, v := range list {
		out = append(out, v-1, v, v+1)
	}
	return out
}

// filled has n times the number v.
func filled(n int, v int64) []int64 {
	return slices.Repeat([]int64{v}, n)
}

// withAt is a new list in which v stands at the place at.
func withAt(list []int64, at int, v int64) []int64 {
	out := slices.Clone(list)
	out[at] = v
	return out
}

// guarded is list with memory behind its end that nobody may touch either.
func guarded(list []int64) (inside []int64, whole []int64) {
	whole = append(slices.Clone(list), 77, 78, 79)
	return whole[:len(list)], whole
}

// wantInt holds an answer against its code and value; beside a code the value is 0.
func wantInt(t *testing.T, got impl.IntResult, code int64, value int64, what string, args ...any) {
	t.Helper()
	if got != (impl.IntResult{Code: code, Value: value}) {
		t.Errorf("%s %v: got %+v, want code %d, value %d", what, args, got, code, value)
	}
}

// wantCode holds a fault against the code that is asked.
func wantCode(t *testing.T, got int64, want int64, what string, args ...any) {
	t.Helper()
	if got != want {
		t.Errorf("%s %v: got %d, want %d", what, args, got, want)
	}
}

// bytesOf has n bytes that differ, by a short rule of its own from the seed.
func bytesOf(n int, seed uint32) []byte {
	out := make([]byte, n)
	for i := range out {
		seed = seed*1664525 + 1013904223
		out[i] = byte(seed >> 24)
	}
	return out
}

// guardedBytes is data with memory behind its end that nobody may touch either.
func guardedBytes(data []byte) (inside []byte, whole []byte) {
	whole = append(slices.Clone(data), 77, 78, 79)
	return whole[:len(data)], whole
}

// wantBytes holds an answer against its code and bytes; beside a code there are none.
func wantBytes(t *testing.T, got impl.BytesResult, code int64, want []byte, what string, args ...any) {
	t.Helper()
	if got.Code != code || !slices.Equal(got.Bytes, want) {
		t.Errorf("%s %v: got %+v, want code %d, bytes %v", what, args, got, code, want)
	}
}

// wantSameAnswers asks all calls, and then again: in other orders, and beside one another. The same arguments have the same answers then;
// the lists among them are written over, which changes no later ones.
func wantSameAnswers[C any, A comparable](t *testing.T, calls []C, ask func(C) (A, []impl.IntsResult)) {
	t.Helper()
	var first []A
	var lists [][]impl.IntsResult
	for _, c := range calls {
		answers, list := ask(c)
		first, lists = append(first, answers), append(lists, list)
	}
	var group sync.WaitGroup
	for seed := range int64(4) {
		group.Go(func() {
			for _, i := range rand.New(rand.NewSource(seed)).Perm(len(calls)) {
				answers, list := ask(calls[i])
				if answers != first[i] {
					t.Errorf("%v: first %v, then %v", calls[i], first[i], answers)
				}
				for j, got := range list {
					if got.Code != lists[i][j].Code || !slices.Equal(got.List, lists[i][j].List) {
						t.Errorf("%v: first %v, then %v", calls[i], lists[i][j], got)
					}
					clear(got.List[:cap(got.List)])
				}
			}
		})
	}
	group.Wait()
}
