package tests

import (
	"fmt"
	"math/rand"
	"slices"
	"sync"
	"testing"

	"loop.example/g00657/impl"
)

// tailEnd is the document's MaxTail; lowSample and highSample are its MinSample and MaxSample.
const (
	tailEnd    = int64(1) << 28
	lowSample  = int64(-32768)
	highSample = int64(32767)
)

// noSizes are sizes that are none: those next to a right one, and far ones.
var noSizes = append([]int64{-16, -8, -4, -1, 0, 1, 2, 3, 5, 6, 7, 9, 12, 15, 17, 32, 64}, farNumbers...)

// seamsOf goes over all that was said, or all blocks, as one long list, and turns at each seam of it what is as far from it,
// inwards from the far ends: pairs of one seam have nothing in common.
func seamsOf(size int, all []int64, way func(turnRow, int64, int64) impl.PairResult) []int64 {
	out := slices.Clone(all)
	for seam := size; seam < len(out); seam += size {
		for n := size/2 - 1; n >= 0; n-- {
			v := way(rowOf(size, n), out[seam-1-n], out[seam+n])
			out[seam-1-n], out[seam+n] = v.A, v.B
		}
	}
	return out
}

// feedOf lays the frame of the lap and the next one behind one another. What was turned already stands as it is:
// there is no seam ahead of it in that list.
func feedOf(l impl.Lap, frame []int64) impl.FeedResult {
	n, h := len(frame), len(frame)/2
	all := seamsOf(n, slices.Concat(l.Half, l.Rest, frame), aheadOf)
	return impl.FeedResult{Lap: impl.Lap{Size: int64(n), Half: all[n : n+h], Rest: all[n+h:]}, Coefs: coefficientsOf(all[:n])}
}

// playOf is feedOf the other way: block is what coefs tell.
func playOf(y impl.Synth, block []int64) impl.PlayResult {
	n, h := len(block), len(block)/2
	all := seamsOf(n, slices.Concat(y.Head, y.Tail, block), backOf)
	return impl.PlayResult{Synth: impl.Synth{Size: int64(n), Head: all[n : n+h], Tail: all[n+h:]}, Frame: all[:n]}
}

// between: no number of list is below low or above high.
func between(list []int64, low int64, high int64) bool {
	return !slices.ContainsFunc(list, func(v int64) bool { return v < low || v > high })
}

func halvesFaultOf(size int64, first []int64, second []int64, areRight bool) int64 {
	switch {
	case size != 4 && size != 8 && size != 16:
		return impl.ErrRange
	case int64(2*len(first)) != size || int64(2*len(second)) != size:
		return impl.ErrMany
	case !areRight:
		return impl.ErrRange
	}
	return impl.OK
}

func lapFaultOf(l impl.Lap) int64 {
	return halvesFaultOf(l.Size, l.Half, l.Rest, between(l.Half, -blockEnd, blockEnd) && between(l.Rest, lowSample, highSample))
}

func synthFaultOf(y impl.Synth) int64 {
	return halvesFaultOf(y.Size, y.Head, y.Tail, between(y.Head, -headEnd, headEnd) && between(y.Tail, -tailEnd, tailEnd))
}

// lapsAlike and synthsAlike hold fields against each other without the functions that are asked here.
func lapsAlike(a impl.Lap, b impl.Lap) bool {
	return a.Size == b.Size && slices.Equal(a.Half, b.Half) && slices.Equal(a.Rest, b.Rest)
}

func synthsAlike(a impl.Synth, b impl.Synth) bool {
	return a.Size == b.Size && slices.Equal(a.Head, b.Head) && slices.Equal(a.Tail, b.Tail)
}

func wantFeed(t *testing.T, got impl.FeedResult, want impl.FeedResult, what string, args ...any) {
	t.Helper()
	if got.Code != want.Code || !lapsAlike(got.Lap, want.Lap) || !slices.Equal(got.Coefs, want.Coefs) {
		t.Errorf("%s %v: got %+v, want %+v", what, args, got, want)
	}
}

func wantPlay(t *testing.T, got impl.PlayResult, want impl.PlayResult, what string, args ...any) {
	t.Helper()
	if got.Code != want.Code || !synthsAlike(got.Synth, want.Synth) || !slices.Equal(got.Frame, want.Frame) {
		t.Errorf("%s %v: got %+v, want %+v", what, args, got, want)
	}
}

// wantFed feeds a frame to a right lap: what is told is what the model tells, and the next lap is a right one.
func wantFed(t *testing.T, l impl.Lap, frame []int64) impl.FeedResult {
	t.Helper()
	got := impl.FeedFrame(l, frame)
	if got.Code != impl.OK {
		t.Fatalf("FeedFrame %v, %v: code %d", l, frame, got.Code)
	}
	wantFeed(t, got, feedOf(l, frame), "FeedFrame", l, frame)
	wantCode(t, impl.LapFault(got.Lap), impl.OK, "LapFault of FeedFrame", got.Lap)
	return got
}

// wantPlayed plays a block to a right synth, as wantFed feeds.
func wantPlayed(t *testing.T, y impl.Synth, coefs []int64) impl.PlayResult {
	t.Helper()
	got := impl.PlayBlock(y, coefs)
	if got.Code != impl.OK {
		t.Fatalf("PlayBlock %v, %v: code %d", y, coefs, got.Code)
	}
	wantPlay(t, got, playOf(y, impl.GatherBlock(coefs).List), "PlayBlock", y, coefs)
	wantCode(t, impl.SynthFault(got.Synth), impl.OK, "SynthFault of PlayBlock", got.Synth)
	return got
}

// anySamples is as often near 0 as at the ends.
func anySamples(r *rand.Rand, n int) []int64 {
	out := anyList(r, n, 40000)
	for i := range out {
		out[i] = min(max(out[i], lowSample), highSample)
	}
	return out
}

func anyLap(r *rand.Rand, n int) impl.Lap {
	return impl.Lap{Size: int64(n), Half: anyList(r, n/2, blockEnd), Rest: anySamples(r, n/2)}
}

func anySynth(r *rand.Rand, n int) impl.Synth {
	return impl.Synth{Size: int64(n), Head: anyList(r, n/2, headEnd), Tail: anyList(r, n/2, tailEnd)}
}

// edgeSamples has n samples at their ends, by the binary digits of signs.
func edgeSamples(n int, signs int) []int64 {
	out := filled(n, highSample)
	for i := range out {
		if signs>>i&1 == 1 {
			out[i] = lowSample
		}
	}
	return out
}

func TestLapConstants(t *testing.T) {
	if impl.MaxTail != tailEnd || impl.MaxHead != headEnd {
		t.Error(impl.MaxTail, impl.MaxHead)
	}
}

// TestFeedExamples are worked out by hand.
func TestFeedExamples(t *testing.T) {
	rows := []struct{ half, rest, frame, nextHalf, nextRest, coefs []int64 }{
		// The turn 0 makes -200 of the last of Rest: the block is 0, 0, 0, -200.
		{[]int64{0, 0}, []int64{0, 0}, []int64{1024, 0, 0, 0}, []int64{1004, 0}, []int64{0, 0}, []int64{-50, 117, -100, 157}},
		// The turn 1 makes -569 of the first of Rest: the block is 0, 0, -569, 0.
		{[]int64{0, 0}, []int64{0, 0}, []int64{0, 1024, 0, 0}, []int64{0, 851}, []int64{0, 0}, []int64{-143, 223, 285, -669}},
		// The second half of a frame waits for the next one.
		{[]int64{0, 0}, []int64{0, 0}, []int64{0, 0, 1024, -1024}, []int64{0, 0}, []int64{1024, -1024}, []int64{0, 0, 0, 0}},
		// Half is not turned once more: the block is 8, 8, 0, 0.
		{[]int64{8, 8}, []int64{0, 0}, []int64{0, 0, 0, 0}, []int64{0, 0}, []int64{0, 0}, []int64{4, 7, 0, -3}},
		// 1024 and 2 become 850 and 570: the block is 7, 8, 850, 0.
		{[]int64{7, 8}, []int64{1024, 0}, []int64{1, 2, 3, 4}, []int64{1, 570}, []int64{3, 4}, []int64{216, -327, -426, 995}},
	}
	for _, r := range rows {
		want := impl.FeedResult{Lap: impl.Lap{Size: 4, Half: r.nextHalf, Rest: r.nextRest}, Coefs: r.coefs}
		wantFeed(t, impl.FeedFrame(impl.Lap{Size: 4, Half: r.half, Rest: r.rest}, r.frame), want, "FeedFrame", r)
	}
}

// TestPlayExamples are worked out by hand.
func TestPlayExamples(t *testing.T) {
	rows := []struct{ head, tail, coefs, nextHead, nextTail, frame []int64 }{
		// All four numbers of the block are 1004: -200 and 1004 become 0 and 1024, 0 and 1004 become 559 and 835.
		{[]int64{5, 6}, []int64{0, -200}, []int64{1004, 0, 0, 0}, []int64{1024, 835}, []int64{1004, 1004}, []int64{5, 6, 559, 0}},
		// The block is 7, 8, 850, 0: its second half waits. The turn 0 of 0 and 7 makes 1 of 0, the turn 1 of 0 and 8 4 and 7.
		{[]int64{-1, 2}, []int64{0, 0}, []int64{216, -327, -426, 995}, []int64{7, 7}, []int64{850, 0}, []int64{-1, 2, 4, 2}},
		// Frame and Synth may be of any size: nothing is brought back to the samples.
		{[]int64{headEnd, -headEnd}, []int64{0, 0}, []int64{0, 0, 0, 0}, []int64{0, 0}, []int64{0, 0}, []int64{headEnd, -headEnd, 0, 0}},
	}
	for _, r := range rows {
		want := impl.PlayResult{Synth: impl.Synth{Size: 4, Head: r.nextHead, Tail: r.nextTail}, Frame: r.frame}
		wantPlay(t, impl.PlayBlock(impl.Synth{Size: 4, Head: r.head, Tail: r.tail}, r.coefs), want, "PlayBlock", r)
	}
}

// TestNewLapsAndSynths: noughts alone, of each size, and nothing beside a code.
func TestNewLapsAndSynths(t *testing.T) {
	for _, n := range blockLengths {
		l, y := impl.NewLap(int64(n)), impl.NewSynth(int64(n))
		noughts := make([]int64, n/2)
		if l.Code != impl.OK || !lapsAlike(l.Lap, impl.Lap{Size: int64(n), Half: noughts, Rest: noughts}) {
			t.Errorf("NewLap %d: got %+v", n, l)
		}
		if y.Code != impl.OK || !synthsAlike(y.Synth, impl.Synth{Size: int64(n), Head: noughts, Tail: noughts}) {
			t.Errorf("NewSynth %d: got %+v", n, y)
		}
		wantCode(t, impl.LapFault(l.Lap), impl.OK, "LapFault of NewLap", n)
		wantCode(t, impl.SynthFault(y.Synth), impl.OK, "SynthFault of NewSynth", n)
	}
	for _, size := range noSizes {
		if l := impl.NewLap(size); l.Code != impl.ErrRange || !lapsAlike(l.Lap, impl.Lap{}) {
			t.Errorf("NewLap %d: got %+v", size, l)
		}
		if y := impl.NewSynth(size); y.Code != impl.ErrRange || !synthsAlike(y.Synth, impl.Synth{}) {
			t.Errorf("NewSynth %d: got %+v", size, y)
		}
	}
}

// TestWhichSeamTurnsTheFrame: one sample of a frame alone is not 0.
// In the first half it is B of the turn of its place, in the second half it is not turned yet.
func TestWhichSeamTurnsTheFrame(t *testing.T) {
	for _, n := range blockLengths {
		h := n / 2
		for at := range n {
			for _, v := range []int64{highSample, lowSample, 1024, -511, 3} {
				half, rest, block := filled(h, 0), filled(h, 0), filled(n, 0)
				if at < h {
					turned := aheadOf(rowOf(n, at), 0, v)
					half[at], block[n-1-at] = turned.B, turned.A
				} else {
					rest[at-h] = v
				}
				want := impl.FeedResult{Lap: impl.Lap{Size: int64(n), Half: half, Rest: rest}, Coefs: coefficientsOf(block)}
				frame := withAt(filled(n, 0), at, v)
				wantFeed(t, impl.FeedFrame(impl.NewLap(int64(n)).Lap, frame), want, "FeedFrame of a new lap", frame)
			}
		}
	}
}

// TestWhichSeamTurnsTheLap: one number of a lap alone is not 0. Of Rest it is A, and the last one has the turn 0;
// of Half it is in the block as it is, and turns nothing.
func TestWhichSeamTurnsTheLap(t *testing.T) {
	for _, n := range blockLengths {
		h := n / 2
		still := filled(n, 0)
		for at := range h {
			for _, v := range []int64{highSample, lowSample, 1024, -511, 3} {
				turned := aheadOf(rowOf(n, h-1-at), v, 0)
				l := impl.Lap{Size: int64(n), Half: filled(h, 0), Rest: withAt(filled(h, 0), at, v)}
				want := impl.Lap{Size: int64(n), Half: withAt(filled(h, 0), h-1-at, turned.B), Rest: filled(h, 0)}
				wantFeed(t, impl.FeedFrame(l, still), impl.FeedResult{Lap: want, Coefs: coefficientsOf(withAt(still, h+at, turned.A))}, "FeedFrame, Rest", l)
			}
			for _, v := range []int64{blockEnd, -blockEnd, 1024, -511, 3} {
				l := impl.Lap{Size: int64(n), Half: withAt(filled(h, 0), at, v), Rest: filled(h, 0)}
				wantFeed(t, impl.FeedFrame(l, still), impl.FeedResult{Lap: impl.NewLap(int64(n)).Lap, Coefs: coefficientsOf(withAt(still, at, v))}, "FeedFrame, Half", l)
			}
		}
	}
}

// TestWhichSeamTurnsBack: one number of a synth, or of a block, alone is not 0.
func TestWhichSeamTurnsBack(t *testing.T) {
	for _, n := range blockLengths {
		h := n / 2
		still, size := filled(n, 0), int64(n)
		for at := range h {
			for _, v := range []int64{tailEnd, -tailEnd, 1024, -511, 3} {
				back := backOf(rowOf(n, h-1-at), v, 0)
				y := impl.Synth{Size: size, Head: filled(h, 0), Tail: withAt(filled(h, 0), at, v)}
				want := impl.Synth{Size: size, Head: withAt(filled(h, 0), h-1-at, back.B), Tail: filled(h, 0)}
				wantPlay(t, impl.PlayBlock(y, still), impl.PlayResult{Synth: want, Frame: withAt(still, h+at, back.A)}, "PlayBlock, Tail", y)
			}
			for _, v := range []int64{headEnd, -headEnd, 1024, -511, 3} {
				y := impl.Synth{Size: size, Head: withAt(filled(h, 0), at, v), Tail: filled(h, 0)}
				wantPlay(t, impl.PlayBlock(y, still), impl.PlayResult{Synth: impl.NewSynth(size).Synth, Frame: withAt(still, at, v)}, "PlayBlock, Head", y)
			}
			for _, v := range []int64{blockEnd, -blockEnd, 1024, -511, 3} {
				back := backOf(rowOf(n, at), 0, v)
				first := impl.Synth{Size: size, Head: withAt(filled(h, 0), at, back.B), Tail: filled(h, 0)}
				coefs := coefficientsOf(withAt(still, at, v))
				wantPlay(t, impl.PlayBlock(impl.NewSynth(size).Synth, coefs), impl.PlayResult{Synth: first, Frame: withAt(still, n-1-at, back.A)}, "PlayBlock, the first half", coefs)
				second := impl.Synth{Size: size, Head: filled(h, 0), Tail: withAt(filled(h, 0), at, v)}
				coefs = coefficientsOf(withAt(still, h+at, v))
				wantPlay(t, impl.PlayBlock(impl.NewSynth(size).Synth, coefs), impl.PlayResult{Synth: second, Frame: still}, "PlayBlock, the second half", coefs)
			}
		}
	}
}

// wantTwoFramesLater feeds the frames one behind the other and plays what is told. All frames, with a still one ahead of
// them, are turned by the model as one list: a block is told one frame later, and its frame two frames later.
func wantTwoFramesLater(t *testing.T, n int, frames [][]int64) {
	t.Helper()
	still := filled(n, 0)
	said := append([][]int64{still, still}, frames...)
	turned := seamsOf(n, slices.Concat(said[1:]...), aheadOf)
	l, y := impl.NewLap(int64(n)).Lap, impl.NewSynth(int64(n)).Synth
	for i, frame := range frames {
		fed := wantFed(t, l, frame)
		if want := coefficientsOf(turned[i*n : (i+1)*n]); !slices.Equal(fed.Coefs, want) {
			t.Errorf("%d: the block %d has %v, want %v", n, i, fed.Coefs, want)
		}
		if !slices.Equal(fed.Lap.Rest, frame[n/2:]) {
			t.Errorf("%d: Rest of the frame %v is %v", n, frame, fed.Lap.Rest)
		}
		played := wantPlayed(t, y, fed.Coefs)
		if !slices.Equal(played.Frame, said[i]) {
			t.Errorf("%d: frame %d came back as %v, it was %v", n, i, played.Frame, said[i])
		}
		l, y = fed.Lap, played.Synth
	}
}

func TestTwoFramesLater(t *testing.T) {
	r := rand.New(rand.NewSource(71))
	for _, n := range blockLengths {
		for range 40 {
			var frames [][]int64
			for range 2 + r.Intn(30) {
				frames = append(frames, anySamples(r, n))
			}
			wantTwoFramesLater(t, n, frames)
		}
	}
}

// TestTwoFramesLaterPlain: levels, steps from one end to the other, single samples, and what is next to 0.
func TestTwoFramesLaterPlain(t *testing.T) {
	r := rand.New(rand.NewSource(72))
	for _, n := range blockLengths {
		var levels, single, near, last [][]int64
		for _, v := range []int64{0, 1, -1, highSample, lowSample, 0, lowSample, lowSample, highSample, highSample, 0, 0, 0} {
			levels = append(levels, filled(n, v))
		}
		for at := range n {
			single = append(single, withAt(filled(n, 0), at, highSample), withAt(filled(n, 0), at, lowSample), filled(n, 0))
		}
		for range 200 {
			near = append(near, anyList(r, n, 2))
			last = append(last, edgeSamples(n, r.Intn(1<<n)))
		}
		for _, frames := range [][][]int64{levels, single, near, last} {
			wantTwoFramesLater(t, n, frames)
		}
	}
}

// TestBlocksStayWithin: both sides of a seam have each sample at an end, with all signs, and no block leaves MaxBlock.
func TestBlocksStayWithin(t *testing.T) {
	for _, n := range blockLengths {
		h, farthest := n/2, int64(0)
		for signs := range 1 << n {
			all := edgeSamples(n, signs)
			l := impl.Lap{Size: int64(n), Half: filled(h, 0), Rest: all[:h]}
			frame := slices.Concat(all[h:], filled(h, 0))
			fed := impl.FeedFrame(l, frame)
			if fed.Code != impl.OK || impl.LapFault(fed.Lap) != impl.OK {
				t.Fatalf("FeedFrame %v, %v: got %+v", l, frame, fed)
			}
			block := impl.GatherBlock(fed.Coefs).List
			farthest = max(farthest, slices.Max(fed.Lap.Half), slices.Max(block))
			if n < 16 || signs%61 == 0 {
				wantFed(t, l, frame)
			}
		}
		if farthest <= highSample+10000 || farthest > blockEnd {
			t.Errorf("%d: the farthest number of a block is %d", n, farthest)
		}
	}
}

// TestFeedEdges: numbers of Half at MaxBlock, samples of Rest and of the frame at their ends.
func TestFeedEdges(t *testing.T) {
	r := rand.New(rand.NewSource(73))
	for _, n := range blockLengths {
		h := n / 2
		for signs := range 1 << h {
			for _, end := range []int64{blockEnd, blockEnd - 1} {
				l := impl.Lap{Size: int64(n), Half: signed(h, signs, end), Rest: edgeSamples(h, r.Intn(1<<h))}
				wantCode(t, impl.LapFault(l), impl.OK, "LapFault", l)
				wantFed(t, l, edgeSamples(n, r.Intn(1<<n)))
			}
		}
		for range 1000 {
			l := anyLap(r, n)
			wantCode(t, impl.LapFault(l), impl.OK, "LapFault", l)
			wantFed(t, l, anySamples(r, n))
		}
	}
}

// TestPlayEdges: numbers of Head at MaxHead, of Tail at MaxTail, coefficients at MaxCoef. Frames are far beyond the samples then,
// and the numbers of the next synth beyond those that come of samples.
func TestPlayEdges(t *testing.T) {
	r := rand.New(rand.NewSource(74))
	for _, n := range blockLengths {
		h, inFrame, inHead, inTail := n/2, int64(0), int64(0), int64(0)
		note := func(p impl.PlayResult) {
			inFrame = max(inFrame, slices.Max(p.Frame[h:]))
			inHead = max(inHead, slices.Max(p.Synth.Head))
			inTail = max(inTail, slices.Max(p.Synth.Tail))
		}
		for signs := range 1 << h {
			for _, end := range []int64{0, 1} {
				y := impl.Synth{Size: int64(n), Head: signed(h, signs, headEnd-end), Tail: signed(h, r.Intn(1<<h), tailEnd-end)}
				wantCode(t, impl.SynthFault(y), impl.OK, "SynthFault", y)
				note(wantPlayed(t, y, signed(n, r.Intn(1<<n), coefEnd-end)))
			}
		}
		for range 1000 {
			y := anySynth(r, n)
			wantCode(t, impl.SynthFault(y), impl.OK, "SynthFault", y)
			note(wantPlayed(t, y, anyList(r, n, coefEnd)))
		}
		if inFrame <= tailEnd || inHead <= 8*coefEnd || inTail <= 2*coefEnd {
			t.Errorf("%d: what is told goes to %d, %d and %d alone", n, inFrame, inHead, inTail)
		}
	}
}

// TestPlayedAnything: all blocks, with a still one ahead of them, are turned back by the model as one list.
// Coefficients that tell samples are told again, two frames later, by the frames that are played.
func TestPlayedAnything(t *testing.T) {
	r := rand.New(rand.NewSource(75))
	for _, n := range blockLengths {
		for range 100 {
			y, l := impl.NewSynth(int64(n)).Synth, impl.NewLap(int64(n)).Lap
			played, blocks, frames := [][]int64{filled(n, 0), filled(n, 0)}, filled(n, 0), []int64{}
			for i := range 8 {
				coefs := anyList(r, n, 3000)
				played, blocks = append(played, coefs), append(blocks, impl.GatherBlock(coefs).List...)
				told := wantPlayed(t, y, coefs)
				fed := wantFed(t, l, told.Frame)
				if !slices.Equal(fed.Coefs, played[i]) {
					t.Errorf("%d: %v was told again as %v", n, played[i], fed.Coefs)
				}
				frames = append(frames, told.Frame...)
				y, l = told.Synth, fed.Lap
			}
			if heard := slices.Concat(frames, y.Head, y.Tail); !slices.Equal(heard, seamsOf(n, blocks, backOf)) {
				t.Errorf("%d: %v was played as %v", n, blocks, heard)
			}
		}
	}
}

// halfLists are right and wrong halves of the size n: each length near it, none, and each number in the middle or at one place
// that of values.
func halfLists(n int, values []int64) [][]int64 {
	h := n / 2
	out := [][]int64{nil, {}, filled(h, 0), filled(1, 0), filled(h-1, 0), filled(h+1, 0), filled(n, 0), filled(2*n, 0)}
	for _, v := range values {
		out = append(out, filled(h-1, v), filled(h+1, v), filled(h, v))
		for at := range h {
			out = append(out, withAt(filled(h, 0), at, v))
		}
	}
	return out
}

// shortened has those numbers alone at which something changes, so that all of them can be asked with all others.
func shortened(end int64) []int64 {
	return []int64{end, -end, end + 1, -end - 1, farNumbers[0], farNumbers[len(farNumbers)-1]}
}

func TestLapFaults(t *testing.T) {
	seen := map[int64]int{}
	samples := []int64{highSample, lowSample, highSample + 1, lowSample - 1, blockEnd, farNumbers[0], farNumbers[len(farNumbers)-1]}
	for _, n := range blockLengths {
		for _, half := range halfLists(n, shortened(blockEnd)) {
			for _, rest := range halfLists(n, samples) {
				for _, size := range []int64{int64(n), 4, 5} {
					l := impl.Lap{Size: size, Half: half, Rest: rest}
					want := lapFaultOf(l)
					wantCode(t, impl.LapFault(l), want, "LapFault", l)
					seen[want]++
				}
			}
		}
	}
	if seen[impl.OK] == 0 || seen[impl.ErrMany] == 0 || seen[impl.ErrRange] == 0 || len(seen) != 3 {
		t.Error(seen)
	}
}

func TestSynthFaults(t *testing.T) {
	seen := map[int64]int{}
	for _, n := range blockLengths {
		for _, head := range halfLists(n, shortened(headEnd)) {
			for _, tail := range halfLists(n, append(shortened(tailEnd), headEnd)) {
				for _, size := range []int64{int64(n), 8, 7} {
					y := impl.Synth{Size: size, Head: head, Tail: tail}
					want := synthFaultOf(y)
					wantCode(t, impl.SynthFault(y), want, "SynthFault", y)
					seen[want]++
				}
			}
		}
	}
	if seen[impl.OK] == 0 || seen[impl.ErrMany] == 0 || seen[impl.ErrRange] == 0 || len(seen) != 3 {
		t.Error(seen)
	}
}

// TestFaultsOfSizes: a size that is none is told ahead of how many numbers there are.
func TestFaultsOfSizes(t *testing.T) {
	for _, size := range noSizes {
		for n := range 20 {
			for _, v := range []int64{0, headEnd + 1, farNumbers[0]} {
				list := filled(n, v)
				wantCode(t, impl.LapFault(impl.Lap{Size: size, Half: list, Rest: list}), impl.ErrRange, "LapFault", size, n, v)
				wantCode(t, impl.SynthFault(impl.Synth{Size: size, Head: list, Tail: list}), impl.ErrRange, "SynthFault", size, n, v)
			}
		}
		for _, n := range blockLengths {
			wantFeed(t, impl.FeedFrame(impl.Lap{Size: size}, filled(n, 0)), impl.FeedResult{Code: impl.ErrRange}, "FeedFrame", size, n)
			wantPlay(t, impl.PlayBlock(impl.Synth{Size: size}, filled(n, 0)), impl.PlayResult{Code: impl.ErrRange}, "PlayBlock", size, n)
		}
	}
}

// TestRightNumbersOfSizes: each size has its own half.
func TestRightNumbersOfSizes(t *testing.T) {
	for _, n := range blockLengths {
		for first := range 20 {
			for second := range 20 {
				want := int64(impl.ErrMany)
				if first == n/2 && second == n/2 {
					want = impl.OK
				}
				l := impl.Lap{Size: int64(n), Half: filled(first, 0), Rest: filled(second, 0)}
				y := impl.Synth{Size: int64(n), Head: filled(first, 0), Tail: filled(second, 0)}
				wantCode(t, impl.LapFault(l), want, "LapFault", n, first, second)
				wantCode(t, impl.SynthFault(y), want, "SynthFault", n, first, second)
				wantCode(t, impl.FeedFrame(l, filled(n, 0)).Code, want, "FeedFrame", n, first, second)
				wantCode(t, impl.PlayBlock(y, filled(n, 0)).Code, want, "PlayBlock", n, first, second)
			}
		}
	}
}

// framesOf are lists of which some are n samples, or n coefficients, and which others are not.
func framesOf(n int, values []int64) [][]int64 {
	out := [][]int64{nil, {}}
	for _, v := range append(values, 0) {
		for _, length := range []int{1, 2, n / 2, n - 1, n, n + 1, 2 * n, 4, 8, 16, 17, 32} {
			out = append(out, filled(length, v))
		}
		for at := range n {
			out = append(out, withAt(filled(n, 0), at, v))
		}
	}
	return out
}

// lapsOf has a right lap and those that have a fault of each kind, and of several.
func lapsOf(n int) []impl.Lap {
	size, h := int64(n), n/2
	return []impl.Lap{
		{Size: size, Half: filled(h, -blockEnd), Rest: filled(h, lowSample)},
		{Size: size + 1, Half: filled(h, 0), Rest: filled(h, 0)},
		{Size: -size, Half: filled(h, 0), Rest: filled(h, 0)},
		{Size: size, Half: filled(h-1, 0), Rest: filled(h, 0)},
		{Size: size, Half: filled(h, blockEnd+1), Rest: filled(h+1, 0)},
		{Size: size, Half: filled(h, 0), Rest: nil},
		{Size: size, Half: withAt(filled(h, 0), h-1, blockEnd+1), Rest: filled(h, 0)},
		{Size: size, Half: filled(h, 0), Rest: withAt(filled(h, 0), h-1, highSample+1)},
		{Size: size, Half: filled(h, 0), Rest: withAt(filled(h, 0), 0, lowSample-1)},
		{},
	}
}

// TestFeedFaults: a fault of the lap is told ahead of one of the frame, and how many samples there are ahead of what they are.
func TestFeedFaults(t *testing.T) {
	for _, n := range blockLengths {
		for _, l := range lapsOf(n) {
			for _, frame := range framesOf(n, append([]int64{highSample, lowSample, highSample + 1, lowSample - 1}, farNumbers...)) {
				want := lapFaultOf(l)
				switch {
				case want != impl.OK:
				case len(frame) != n:
					want = impl.ErrMany
				case !between(frame, lowSample, highSample):
					want = impl.ErrRange
				default:
					wantFed(t, l, frame)
					continue
				}
				wantFeed(t, impl.FeedFrame(l, frame), impl.FeedResult{Code: want}, "FeedFrame", l, frame)
			}
		}
	}
}

func synthsOf(n int) []impl.Synth {
	size, h := int64(n), n/2
	return []impl.Synth{
		{Size: size, Head: filled(h, -headEnd), Tail: filled(h, -tailEnd)},
		{Size: size + 1, Head: filled(h, 0), Tail: filled(h, 0)},
		{Size: -size, Head: filled(h, 0), Tail: filled(h, 0)},
		{Size: size, Head: filled(h-1, 0), Tail: filled(h, 0)},
		{Size: size, Head: filled(h, headEnd+1), Tail: filled(h+1, 0)},
		{Size: size, Head: filled(h, 0), Tail: nil},
		{Size: size, Head: withAt(filled(h, 0), h-1, headEnd+1), Tail: filled(h, 0)},
		{Size: size, Head: filled(h, 0), Tail: withAt(filled(h, 0), h-1, tailEnd+1)},
		{Size: size, Head: filled(h, 0), Tail: withAt(filled(h, 0), 0, -tailEnd-1)},
		{},
	}
}

// TestPlayFaults is TestFeedFaults for blocks. Coefficients of another size are too many or too few, though they could be gathered.
func TestPlayFaults(t *testing.T) {
	for _, n := range blockLengths {
		for _, y := range synthsOf(n) {
			for _, coefs := range framesOf(n, append([]int64{coefEnd, -coefEnd}, beyond(coefEnd)...)) {
				want := synthFaultOf(y)
				switch {
				case want != impl.OK:
				case len(coefs) != n:
					want = impl.ErrMany
				case !between(coefs, -coefEnd, coefEnd):
					want = impl.ErrRange
				default:
					wantPlayed(t, y, coefs)
					continue
				}
				wantPlay(t, impl.PlayBlock(y, coefs), impl.PlayResult{Code: want}, "PlayBlock", y, coefs)
			}
		}
	}
}

// sameLists are such that no two of them are the same, but nil and an empty one, which are one value.
var sameLists = [][]int64{nil, {}, {0}, {1}, {0, 0}, {0, 1}, {1, 0}, {1, 1}, {0, 0, 0}, {farNumbers[0], 0}, {0, farNumbers[0]}, filled(8, 0), filled(9, 0)}

// TestSame asks any two laps, and any two synths, right or wrong: they are the same if their texts are.
func TestSame(t *testing.T) {
	var laps []impl.Lap
	var synths []impl.Synth
	for _, size := range []int64{4, 8, 0, -4, farNumbers[0]} {
		for _, first := range sameLists {
			for _, second := range sameLists {
				laps = append(laps, impl.Lap{Size: size, Half: first, Rest: second})
				synths = append(synths, impl.Synth{Size: size, Head: first, Tail: second})
			}
		}
	}
	texts := make([]string, len(laps))
	for i := range laps {
		texts[i] = fmt.Sprint(laps[i])
	}
	for i := range laps {
		for j := range laps {
			want := texts[i] == texts[j]
			if got := impl.SameLaps(laps[i], laps[j]); got != want {
				t.Errorf("SameLaps %v, %v: got %v", laps[i], laps[j], got)
			}
			if got := impl.SameSynths(synths[i], synths[j]); got != want {
				t.Errorf("SameSynths %v, %v: got %v", synths[i], synths[j], got)
			}
		}
	}
	if !impl.SameLaps(impl.Lap{}, impl.Lap{}) || !impl.SameSynths(impl.Synth{}, impl.Synth{Head: []int64{}, Tail: []int64{}}) {
		t.Error("zero values")
	}
}

// TestSameOfRightOnes: one number at any place, of any list, tells two apart.
func TestSameOfRightOnes(t *testing.T) {
	r := rand.New(rand.NewSource(76))
	for _, n := range blockLengths {
		l, y := anyLap(r, n), anySynth(r, n)
		if !impl.SameLaps(l, impl.Lap{Size: l.Size, Half: slices.Clone(l.Half), Rest: slices.Clone(l.Rest)}) {
			t.Errorf("SameLaps of %v with its copy", l)
		}
		if !impl.SameSynths(y, impl.Synth{Size: y.Size, Head: slices.Clone(y.Head), Tail: slices.Clone(y.Tail)}) {
			t.Errorf("SameSynths of %v with its copy", y)
		}
		for at := range n / 2 {
			for _, by := range []int64{1, -1, 1 << 32} {
				half := impl.Lap{Size: l.Size, Half: withAt(l.Half, at, l.Half[at]+by), Rest: l.Rest}
				rest := impl.Lap{Size: l.Size, Half: l.Half, Rest: withAt(l.Rest, at, l.Rest[at]+by)}
				head := impl.Synth{Size: y.Size, Head: withAt(y.Head, at, y.Head[at]+by), Tail: y.Tail}
				tail := impl.Synth{Size: y.Size, Head: y.Head, Tail: withAt(y.Tail, at, y.Tail[at]+by)}
				if impl.SameLaps(l, half) || impl.SameLaps(rest, l) || impl.SameSynths(y, head) || impl.SameSynths(tail, y) {
					t.Errorf("%d: the place %d, off by %d, is not seen", n, at, by)
				}
			}
		}
	}
}

// lapAnswers has all lists that the chapter's functions tell of one list: its first quarters are a lap or a synth, the other half is a frame.
func lapAnswers(size int64, list []int64) [][]int64 {
	quarter := len(list) / 4
	first, second, frame := list[:quarter], list[quarter:2*quarter], list[2*quarter:]
	l, y := impl.Lap{Size: size, Half: first, Rest: second}, impl.Synth{Size: size, Head: first, Tail: second}
	newLap, newSynth := impl.NewLap(size).Lap, impl.NewSynth(size).Synth
	fed, played := impl.FeedFrame(l, frame), impl.PlayBlock(y, frame)
	codes := []int64{impl.LapFault(l), impl.SynthFault(y), fed.Code, played.Code, 0, 0}
	if impl.SameLaps(l, newLap) {
		codes[4] = 1
	}
	if impl.SameSynths(y, newSynth) {
		codes[5] = 1
	}
	return [][]int64{
		codes,
		newLap.Half, newLap.Rest, newSynth.Head, newSynth.Tail,
		fed.Lap.Half, fed.Lap.Rest, fed.Coefs,
		played.Synth.Head, played.Synth.Tail, played.Frame,
	}
}

// lapArguments are lists for lapAnswers of the size n: right ones, wrong ones, and one of another length.
func lapArguments(r *rand.Rand, n int) [][]int64 {
	right := anyList(r, 2*n, 30000)
	return [][]int64{
		filled(2*n, 0),
		right,
		withAt(right, 0, blockEnd+1),
		withAt(right, n/2, highSample+1),
		withAt(right, 2*n-1, 1<<40),
		anyList(r, 2*n, coefEnd),
		anyList(r, 2*n+3, 100),
		anyList(r, 2*n-4, 100),
		nil,
	}
}

// wantStayAll asks all lists by wantStay, once and twice, so that the answers of two calls are held against each other as well.
func wantStayAll(t *testing.T, r *rand.Rand, lists func(*rand.Rand, int) [][]int64, ask func(int64, []int64) [][]int64, what string) {
	t.Helper()
	for _, n := range blockLengths {
		for range 20 {
			for _, list := range lists(r, n) {
				once := func(list []int64) [][]int64 { return ask(int64(n), list) }
				twice := func(list []int64) [][]int64 { return append(once(list), once(list)...) }
				wantStay(t, list, once, what)
				wantStay(t, list, twice, what+" twice")
			}
		}
	}
}

func TestLapsShareNothing(t *testing.T) {
	wantStayAll(t, rand.New(rand.NewSource(77)), lapArguments, lapAnswers, "laps")
}

// TestLapsOfOneList: where all lists of the arguments are the same memory, the answers are as if they were not.
func TestLapsOfOneList(t *testing.T) {
	r := rand.New(rand.NewSource(78))
	for _, n := range blockLengths {
		for range 200 {
			list := anySamples(r, n)
			h := n / 2
			l := impl.Lap{Size: int64(n), Half: list[:h], Rest: list[h:]}
			y := impl.Synth{Size: int64(n), Head: list[:h], Tail: list[h:]}
			before := slices.Clone(list)
			fed, played := impl.FeedFrame(l, list), impl.PlayBlock(y, list)
			if !slices.Equal(list, before) {
				t.Fatalf("%v became %v", before, list)
			}
			wantFeed(t, fed, feedOf(l, list), "FeedFrame", list)
			wantPlay(t, played, playOf(y, impl.GatherBlock(list).List), "PlayBlock", list)
		}
	}
}

// wantHang asks all lists with their own size, 8 and 9: the same arguments have the same answers, whatever is asked between,
// in whatever order, and beside it.
func wantHang(t *testing.T, r *rand.Rand, lists func(*rand.Rand, int) [][]int64, ask func(int64, []int64) [][]int64) {
	t.Helper()
	type call struct {
		size int64
		list []int64
	}
	var calls []call
	var first [][][]int64
	for _, n := range blockLengths {
		for _, list := range lists(r, n) {
			for _, size := range []int64{int64(n), 8, 9} {
				calls = append(calls, call{size, list})
				first = append(first, ask(size, list))
			}
		}
	}
	var group sync.WaitGroup
	for seed := range int64(4) {
		group.Go(func() {
			for _, i := range rand.New(rand.NewSource(seed)).Perm(len(calls)) {
				if got := ask(calls[i].size, calls[i].list); !slices.EqualFunc(got, first[i], slices.Equal) {
					t.Errorf("%v: first %v, then %v", calls[i], first[i], got)
				}
			}
		})
	}
	group.Wait()
}

func TestLapsHangOnArguments(t *testing.T) {
	wantHang(t, rand.New(rand.NewSource(79)), lapArguments, lapAnswers)
}
