package impl

const OK = 0
const ErrForm = 1
const ErrMany = 2
const ErrRange = 3
const ErrNone = 4
const ErrText = 5
const ErrTaken = 6
const ErrFull = 7
const ErrState = 8
const ErrLate = 9
const ErrSum = 10
const MaxSample = 32767
const MinSample = -32768
const MaxTop = 1099511627776
const MaxUnder = 33554432

type IntResult struct {
	Code  int64
	Value int64
}
type IntsResult struct {
	Code int64
	List []int64
}
type BytesResult struct {
	Code  int64
	Bytes []byte
}

// Lists of which a norm is asked are short, so that their sum stays far below the greatest int64.
const maxNormed = 64

// The greatest size: a frame of any size fits into it.
const maxSize = 16

// number carries the ways of rounding. Its methods compare nothing with bounds:
// who calls them has done so, or knows that what is asked is small enough.
type number int64

// samples is an array, not a slice: whoever is handed one has a copy, and none
// of the caller's memory is reached through it.
type samples [maxSize]number

func Clamp16(v int64) int64 {
	return int64(number(v).clamp(MinSample, MaxSample))
}

func RoundDiv(a int64, b int64) IntResult {
	if !number(a).isWithin(-MaxTop, MaxTop) || !number(b).isWithin(1, MaxUnder) {
		return IntResult{Code: ErrRange}
	}
	return IntResult{Value: int64(number(a).nearest(number(b)))}
}

func CeilDiv(a int64, b int64) IntResult {
	if !number(a).isWithin(0, MaxTop) || !number(b).isWithin(1, MaxUnder) {
		return IntResult{Code: ErrRange}
	}
	return IntResult{Value: int64(number(a).ceil(number(b)))}
}

func TenOf(v int64) IntResult {
	if !number(v).isWithin(-MaxTop, MaxTop) {
		return IntResult{Code: ErrRange}
	}
	return IntResult{Value: int64(number(v).ten())}
}

func NormOf(list []int64) IntResult {
	if len(list) > maxNormed {
		return IntResult{Code: ErrMany}
	}
	var sum number
	for _, v := range list {
		if !number(v).isWithin(-MaxTop, MaxTop) {
			return IntResult{Code: ErrRange}
		}
		sum += number(v).withoutSign()
	}
	return IntResult{Value: int64(sum)}
}

func SizeFault(size int64) int64 {
	switch size {
	case 4, 8, maxSize:
		return OK
	}
	return ErrRange
}

func SamplesFault(size int64, list []int64) int64 {
	if code := SizeFault(size); code != OK {
		return code
	}
	if int64(len(list)) != size {
		return ErrMany
	}
	if !samplesOf(list).areSamples() {
		return ErrRange
	}
	return OK
}

func (v number) isWithin(low number, high number) bool {
	return low <= v && v <= high
}

func (v number) clamp(low number, high number) number {
	return min(max(v, low), high)
}

func (v number) withoutSign() number {
	if v < 0 {
		return -v
	}
	return v
}

// floor corrects Go's division, which goes towards 0, where v is below 0; under is above 0.
func (v number) floor(under number) number {
	q := v / under
	if v%under < 0 {
		q--
	}
	return q
}

func (v number) ceil(under number) number {
	return -(-v).floor(under)
}

// nearest works without the sign, so that a half goes away from 0 on both sides of it.
func (v number) nearest(under number) number {
	q := (2*v.withoutSign() + under).floor(2 * under)
	if v < 0 {
		return -q
	}
	return q
}

func (v number) ten() number {
	return (v + 512).floor(1024)
}

// samplesOf leaves 0 behind the end of a short list, which is a sample itself.
func samplesOf(list []int64) samples {
	var held samples
	for i := range min(len(list), maxSize) {
		held[i] = number(list[i])
	}
	return held
}

func (s samples) areSamples() bool {
	for _, v := range s {
		if !v.isWithin(MinSample, MaxSample) {
			return false
		}
	}
	return true
}
