package tests

import (
	"math"
	"math/big"
	"math/rand"
	"slices"
	"testing"

	"loop.example/g00657/impl"
)

// wholeLine is a part of one line that is never cut off: where it begins, how long it is, and how often it was made 256 times as long.
type wholeLine struct {
	low    *big.Int
	length int64
	shifts int
}

func newLine() *wholeLine {
	return &wholeLine{low: new(big.Int), length: 1 << 24}
}

func (l *wholeLine) take(s impl.Slot) {
	unit := l.length / s.Total
	l.low.Add(l.low, big.NewInt(unit*s.Low))
	if s.Low+s.Size < s.Total {
		l.length = unit * s.Size
	} else {
		l.length -= unit * s.Low
	}
	for ; l.length < 1<<16; l.shifts++ {
		l.low.Lsh(l.low, 8)
		l.length <<= 8
	}
}

// codeOf works with one long number in place of bytes and a carry.
func codeOf(list []impl.Slot) []byte {
	l := newLine()
	for _, s := range list {
		l.take(s)
	}
	code := l.low.FillBytes(make([]byte, l.shifts+3))
	for len(code) > 0 && code[len(code)-1] == 0 {
		code = code[:len(code)-1]
	}
	return code
}

// byteBehind is 0 behind the end of data.
func byteBehind(data []byte, at int64) int64 {
	if at >= int64(len(data)) {
		return 0
	}
	return int64(data[at])
}

// takenOf is the decoder behind a slot that fits.
func takenOf(d impl.Decoder, s impl.Slot) impl.Decoder {
	l := &wholeLine{low: new(big.Int), length: d.Range}
	l.take(s)
	rest := big.NewInt(d.Rest)
	at := d.At
	for range l.shifts {
		rest.Mul(rest, big.NewInt(256))
		rest.Add(rest, big.NewInt(byteBehind(d.Data, at)))
		at++
	}
	return impl.Decoder{Data: d.Data, At: at, Rest: rest.Sub(rest, l.low).Int64(), Range: l.length}
}

// valueOf counts how many units end at or ahead of Rest.
func valueOf(d impl.Decoder, total int64) int64 {
	unit := d.Range / total
	value := int64(0)
	for value < total-1 && (value+1)*unit <= d.Rest {
		value++
	}
	return value
}

// sameDecoder does without what is tested.
func sameDecoder(a impl.Decoder, b impl.Decoder) bool {
	return slices.Equal(a.Data, b.Data) && a.At == b.At && a.Rest == b.Rest && a.Range == b.Range
}

func wantDecoder(t *testing.T, got impl.DecoderResult, code int64, want impl.Decoder, what string, args ...any) {
	t.Helper()
	if got.Code != code || !sameDecoder(got.Decoder, want) {
		t.Errorf("%s %v: got %+v, want code %d, decoder %+v", what, args, got, code, want)
	}
}

// wantTake asks TakeSlot where neither the decoder nor the slot has a fault and there is room.
func wantTake(t *testing.T, d impl.Decoder, s impl.Slot) {
	t.Helper()
	value := valueOf(d, s.Total)
	if value < s.Low || value > s.Low+s.Size-1 {
		wantDecoder(t, impl.TakeSlot(d, s), impl.ErrState, impl.Decoder{}, "TakeSlot", d, s)
		return
	}
	got := impl.TakeSlot(d, s)
	wantDecoder(t, got, impl.OK, takenOf(d, s), "TakeSlot", d, s)
	wantCode(t, impl.DecoderFault(got.Decoder), impl.OK, "DecoderFault behind TakeSlot", d, s)
}

// anySlot is a slot of any kind, often with the ends of what is let.
func anySlot(r *rand.Rand) impl.Slot {
	total := 1 + r.Int63n(1024)
	switch r.Intn(6) {
	case 0:
		total = 1 + r.Int63n(3)
	case 1:
		total = 1024 - r.Int63n(3)
	case 2:
		total = 1 << r.Intn(11)
	}
	size := 1 + r.Int63n(total)
	if r.Intn(2) == 0 {
		size = min(size, 1+r.Int63n(2))
	}
	low := r.Int63n(total - size + 1)
	switch r.Intn(4) {
	case 0:
		low = total - size
	case 1:
		low = 0
	}
	return impl.Slot{Low: low, Size: size, Total: total}
}

func anySlots(r *rand.Rand, n int) []impl.Slot {
	list := make([]impl.Slot, n)
	for i := range list {
		list[i] = anySlot(r)
	}
	return list
}

// repeated has n times the slot.
func repeated(n int, low int64, size int64, total int64) []impl.Slot {
	return slices.Repeat([]impl.Slot{{Low: low, Size: size, Total: total}}, n)
}

// wantReadBack encodes slots and reads all of them back.
func wantReadBack(t *testing.T, list []impl.Slot) {
	t.Helper()
	told := impl.EncodeSlots(list)
	wantBytes(t, told, impl.OK, codeOf(list), "EncodeSlots", list)
	wantInt(t, impl.CostOf(list), impl.OK, int64(len(told.Bytes)), "CostOf", list)
	if n := len(told.Bytes); n > 600 || n > 0 && told.Bytes[n-1] == 0 {
		t.Fatalf("%v: %d bytes, the last one is 0 or there are too many", list, n)
	}
	start := impl.StartDecode(told.Bytes)
	wantCode(t, start.Code, impl.OK, "StartDecode", list)
	d := start.Decoder
	for i, s := range list {
		value := impl.NextValue(d, s.Total)
		if value.Code != impl.OK || value.Value < s.Low || value.Value >= s.Low+s.Size {
			t.Fatalf("%v: slot %d is read as %+v", list, i, value)
		}
		got := impl.TakeSlot(d, s)
		wantDecoder(t, got, impl.OK, takenOf(d, s), "TakeSlot", list, i)
		d = got.Decoder
	}
	if d.Rest != 0 {
		t.Errorf("%v: what is told is %d above where its part begins", list, d.Rest)
	}
}

func TestRangeConstants(t *testing.T) {
	got := []int64{impl.MaxTotal, impl.MaxSlots, impl.MaxCode, impl.MaxAt, impl.TopRange, impl.LowRange}
	if !slices.Equal(got, []int64{1024, 400, 600, 10000, 16777216, 65536}) {
		t.Error(got)
	}
}

// slotIsRight asks by big numbers, which no sum leaves.
func slotIsRight(s impl.Slot) bool {
	low, size, total := big.NewInt(s.Low), big.NewInt(s.Size), big.NewInt(s.Total)
	end := new(big.Int).Add(low, size)
	return low.Sign() >= 0 && size.Sign() > 0 && end.Cmp(total) <= 0 && total.Cmp(big.NewInt(1024)) <= 0
}

func wantSlotFault(t *testing.T, s impl.Slot) {
	t.Helper()
	want := int64(impl.ErrRange)
	if slotIsRight(s) {
		want = impl.OK
	}
	wantCode(t, impl.SlotFault(s), want, "SlotFault", s)
}

func TestSlotFault(t *testing.T) {
	for total := int64(-2); total <= 20; total++ {
		for size := int64(-2); size <= 22; size++ {
			for low := int64(-2); low <= 22; low++ {
				wantSlotFault(t, impl.Slot{Low: low, Size: size, Total: total})
			}
		}
	}
	edges := append(besides(0, 1, 512, 1023, 1024), farNumbers...)
	for _, total := range edges {
		for _, size := range edges {
			for _, low := range append(edges, total-size-1, total-size, total-size+1) {
				wantSlotFault(t, impl.Slot{Low: low, Size: size, Total: total})
			}
		}
	}
	for total := int64(1); total <= 1024; total++ {
		wantCode(t, impl.SlotFault(impl.Slot{Size: 1, Total: total}), impl.OK, "SlotFault", total)
		wantCode(t, impl.SlotFault(impl.Slot{Low: total - 1, Size: 1, Total: total}), impl.OK, "SlotFault", total)
	}
}

func TestEncodeSlotsExamples(t *testing.T) {
	half, last := impl.Slot{Low: 1, Size: 1, Total: 2}, impl.Slot{Low: 255, Size: 1, Total: 256}
	rows := []struct {
		list []impl.Slot
		want string
	}{
		{nil, ""}, {[]impl.Slot{}, ""}, {[]impl.Slot{half}, "\x80"}, {[]impl.Slot{{Low: 0, Size: 1, Total: 2}}, ""}, {repeated(3, 1, 1, 2), "\xe0"},
		{[]impl.Slot{last}, "\xff"}, {[]impl.Slot{last, last}, "\xff\xff"}, {repeated(400, 255, 1, 256), string(slices.Repeat([]byte{255}, 400))},
		{repeated(400, 0, 1, 1), ""}, {repeated(400, 0, 1, 1024), ""}, {repeated(400, 0, 1024, 1024), ""},
		{[]impl.Slot{{Low: 1, Size: 1, Total: 3}}, "\x55\x55\x55"}, {[]impl.Slot{{Low: 2, Size: 1, Total: 3}}, "\xaa\xaa\xaa"},
		{[]impl.Slot{{Low: 1, Size: 1, Total: 1024}}, "\x00\x40"}, {[]impl.Slot{{Low: 1023, Size: 1, Total: 1024}}, "\xff\xc0"},
		{[]impl.Slot{{Low: 1, Size: 2, Total: 3}, half}, "\xaa\xaa\xaa"},
		// the last slot has what the units leave over: its half lies at 11184810 + 5592406 / 2
		{[]impl.Slot{{Low: 2, Size: 1, Total: 3}, half}, "\xd5\x55\x55"},
		{[]impl.Slot{{Low: 1, Size: 1, Total: 3}, half}, "\x7f\xff\xff"},
	}
	for _, r := range rows {
		wantBytes(t, impl.EncodeSlots(r.list), impl.OK, []byte(r.want), "EncodeSlots", r.list)
		wantInt(t, impl.CostOf(r.list), impl.OK, int64(len(r.want)), "CostOf", r.list)
	}
}

// TestReadBackPairs asks all slots of short lines, and all pairs of them.
func TestReadBackPairs(t *testing.T) {
	var all []impl.Slot
	for total := int64(1); total <= 6; total++ {
		for size := int64(1); size <= total; size++ {
			for low := int64(0); low <= total-size; low++ {
				all = append(all, impl.Slot{Low: low, Size: size, Total: total})
			}
		}
	}
	wantReadBack(t, nil)
	for _, a := range all {
		wantReadBack(t, []impl.Slot{a})
		for _, b := range all {
			wantReadBack(t, []impl.Slot{a, b})
			wantReadBack(t, slices.Repeat([]impl.Slot{a, b}, 30))
		}
	}
}

func TestReadBackLines(t *testing.T) {
	for total := int64(1); total <= 1024; total++ {
		for _, n := range []int{1, 2, 40} {
			wantReadBack(t, repeated(n, total-1, 1, total))
			wantReadBack(t, repeated(n, 0, 1, total))
			wantReadBack(t, repeated(n, total/2, 1, total))
			wantReadBack(t, repeated(n, 0, total, total))
			wantReadBack(t, repeated(n, total/3, total-total/3, total))
		}
	}
}

func TestReadBackMany(t *testing.T) {
	r := rand.New(rand.NewSource(3))
	for n := range 401 {
		for range 4 {
			wantReadBack(t, anySlots(r, n))
		}
	}
	for _, low := range []int64{0, 1, 511, 512, 1022, 1023} { // as many bytes as there can be
		wantReadBack(t, repeated(400, low, 1, 1024))
		wantReadBack(t, repeated(400, min(low, 1022), 1, 1023))
	}
	for range 20 {
		list := make([]impl.Slot, 400)
		for i := range list {
			list[i] = impl.Slot{Low: r.Int63n(1024), Size: 1, Total: 1024}
		}
		wantReadBack(t, list)
	}
}

// straddling has n slots whose part goes on lying on both sides of the middle of the line, so that its first bytes stay 127, 255, 255, ..
func straddling(t *testing.T, n int, total int64) ([]impl.Slot, impl.Decoder) {
	d := impl.StartDecode([]byte{128}).Decoder
	var list []impl.Slot
	for range n {
		low := max(valueOf(d, total)-1, 0)
		s := impl.Slot{Low: low, Size: min(3, total-low), Total: total}
		d = takenOf(d, s)
		list = append(list, s)
	}
	if d.Rest < 1 || d.Rest >= d.Range-2*total {
		t.Fatalf("no part on both sides: %+v", d)
	}
	return list, d
}

// TestCarry: a slot ahead of the middle leaves all the bytes 255 as they are, one behind it turns all of them.
func TestCarry(t *testing.T) {
	for _, total := range []int64{5, 7, 100, 255, 999, 1021} {
		for n := 1; n < 400; n += 1 + n/5 {
			list, d := straddling(t, n, total)
			bytes := int(d.At) - 3
			value := valueOf(d, 1024)
			for _, last := range []impl.Slot{{Low: 0, Size: value, Total: 1024}, {Low: value + 1, Size: 1023 - value, Total: 1024}, {Low: 1023, Size: 1, Total: 1024}} {
				if impl.SlotFault(last) != impl.OK {
					continue
				}
				whole := append(slices.Clone(list), last)
				wantReadBack(t, whole)
				want := append([]byte{127}, slices.Repeat([]byte{255}, bytes)...)
				if last.Low > 0 {
					want = append([]byte{128}, make([]byte, bytes)...)
				}
				code := append(impl.EncodeSlots(whole).Bytes, make([]byte, bytes)...)
				if bytes > 0 && !slices.Equal(code[:bytes], want[:bytes]) {
					t.Errorf("total %d, %d slots: %v, want %v first", total, n, code, want)
				}
			}
		}
	}
}

// TestCarryOverMany: the runs of 255 that are turned are long.
func TestCarryOverMany(t *testing.T) {
	list, d := straddling(t, 399, 1021)
	if d.At < 300 {
		t.Fatalf("short: %d", d.At)
	}
	value := valueOf(d, 1024)
	code := impl.EncodeSlots(append(list, impl.Slot{Low: value + 1, Size: 1, Total: 1024})).Bytes
	if code[0] != 128 || !slices.Equal(code[1:d.At-4], make([]byte, d.At-5)) {
		t.Errorf("no carry: %v", code)
	}
}

func TestEncodeSlotsFaults(t *testing.T) {
	wrong := []impl.Slot{{}, {Size: 1}, {Total: 2}, {Low: -1, Size: 1, Total: 2}, {Low: 2, Size: 1, Total: 2}, {Size: 3, Total: 2}, {Size: 1, Total: 1025},
		{Low: math.MaxInt64, Size: math.MaxInt64, Total: 2}, {Low: math.MinInt64, Size: 1, Total: 1}, {Low: 0, Size: 1, Total: math.MinInt64}}
	for _, w := range wrong {
		for _, n := range []int{1, 2, 3, 400} {
			for _, at := range []int{0, n / 2, n - 1} {
				list := repeated(n, 1, 1, 3)
				list[at] = w
				wantBytes(t, impl.EncodeSlots(list), impl.ErrRange, nil, "EncodeSlots", n, at, w)
				wantInt(t, impl.CostOf(list), impl.ErrRange, 0, "CostOf", n, at, w)
			}
		}
		for _, n := range []int{401, 402, 5000} {
			wantBytes(t, impl.EncodeSlots(slices.Repeat([]impl.Slot{w}, n)), impl.ErrMany, nil, "EncodeSlots", n, w)
			wantInt(t, impl.CostOf(slices.Repeat([]impl.Slot{w}, n)), impl.ErrMany, 0, "CostOf", n, w)
		}
	}
	wantBytes(t, impl.EncodeSlots(repeated(401, 0, 1, 1)), impl.ErrMany, nil, "EncodeSlots", 401)
	wantInt(t, impl.CostOf(repeated(401, 1, 1, 2)), impl.ErrMany, 0, "CostOf", 401)
}

func TestStartDecode(t *testing.T) {
	for _, n := range []int{0, 1, 2, 3, 4, 5, 50, 599, 600} {
		data := bytesOf(n, uint32(n+1))
		rest := byteBehind(data, 0)*65536 + byteBehind(data, 1)*256 + byteBehind(data, 2)
		wantDecoder(t, impl.StartDecode(data), impl.OK, impl.Decoder{Data: data, At: 3, Rest: rest, Range: 16777216}, "StartDecode", n)
		full := slices.Repeat([]byte{255}, n)
		rest = 1<<24 - 1<<(8*max(3-n, 0))
		wantDecoder(t, impl.StartDecode(full), impl.OK, impl.Decoder{Data: full, At: 3, Rest: rest, Range: 16777216}, "StartDecode of 255", n)
		wantDecoder(t, impl.StartDecode(make([]byte, n)), impl.OK, impl.Decoder{Data: make([]byte, n), At: 3, Range: 16777216}, "StartDecode of 0", n)
	}
	for _, n := range []int{601, 602, 10000} {
		wantDecoder(t, impl.StartDecode(make([]byte, n)), impl.ErrMany, impl.Decoder{}, "StartDecode", n)
	}
}

// decodersAt are decoders with numbers at their ends and beyond.
func decodersAt(data []byte) []impl.Decoder {
	var out []impl.Decoder
	for _, length := range append(besides(0, 65536, 16777216), farNumbers...) {
		for _, rest := range append(besides(0, length, length-1), farNumbers...) {
			for _, at := range append(besides(0, 3, 9996, 10000), farNumbers...) {
				out = append(out, impl.Decoder{Data: data, At: at, Rest: rest, Range: length})
			}
		}
	}
	return out
}

// faultOf asks the bounds one by one.
func faultOf(d impl.Decoder) int64 {
	switch {
	case len(d.Data) > 600:
		return impl.ErrMany
	case d.At < 0, d.At > 10000, d.Range < 65536, d.Range > 16777216, d.Rest < 0, d.Rest >= d.Range:
		return impl.ErrRange
	}
	return impl.OK
}

func TestDecoderFault(t *testing.T) {
	right := 0
	for _, n := range []int{0, 1, 600, 601, 1000} {
		for _, d := range decodersAt(make([]byte, n)) {
			wantCode(t, impl.DecoderFault(d), faultOf(d), "DecoderFault", n, d.At, d.Rest, d.Range)
			if faultOf(d) == impl.OK {
				right++
			}
		}
	}
	if right == 0 {
		t.Error("no decoder without a fault was asked")
	}
	wantCode(t, impl.DecoderFault(impl.Decoder{}), impl.ErrRange, "DecoderFault of zero")
}

// TestNextValueCodes: a decoder's fault is told ahead of a wrong total.
func TestNextValueCodes(t *testing.T) {
	for _, n := range []int{0, 600, 601} {
		for _, d := range decodersAt(make([]byte, n)) {
			for _, total := range append(besides(0, 1, 1024), farNumbers...) {
				code, value := faultOf(d), int64(0)
				if code == impl.OK && (total < 1 || total > 1024) {
					code = impl.ErrRange
				}
				if code == impl.OK {
					value = valueOf(d, total)
				}
				wantInt(t, impl.NextValue(d, total), code, value, "NextValue", n, d.At, d.Rest, d.Range, total)
			}
		}
	}
}

func TestNextValue(t *testing.T) {
	for _, length := range append(besides(65537, 100000, 8388608), 16777215, 16777216) {
		for total := int64(1); total <= 1024; total++ {
			unit := length / total
			for _, rest := range append(besides(unit, unit*(total/2), unit*(total-1), unit*total), 0, length-1) {
				if rest >= 0 && rest < length {
					d := impl.Decoder{Data: []byte{1, 2, 3}, At: 3, Rest: rest, Range: length}
					wantInt(t, impl.NextValue(d, total), impl.OK, valueOf(d, total), "NextValue", rest, length, total)
				}
			}
		}
	}
	d := impl.Decoder{Rest: 65535, Range: 65536} // 65536 by 1000 leaves 536: 65535 by 65 is 1008
	wantInt(t, impl.NextValue(d, 1000), impl.OK, 999, "NextValue at the end of a line")
	wantInt(t, impl.NextValue(d, 1), impl.OK, 0, "NextValue of 1")
}

// TestTakeSlotCodes: the decoder, the slot, the room, the value.
func TestTakeSlotCodes(t *testing.T) {
	slots := []impl.Slot{{Size: 1, Total: 2}, {Low: 1, Size: 1, Total: 2}, {Size: 1, Total: 1}, {Low: 1023, Size: 1, Total: 1024}, {}, {Low: 1, Size: 1, Total: 1}, {Size: 1, Total: 1025}, {Low: -1, Size: 2, Total: 2}}
	counts := map[int64]int{}
	for _, n := range []int{0, 600, 601} {
		for _, d := range decodersAt(bytesOf(n, 3)) {
			for _, s := range slots {
				code := faultOf(d)
				if code == impl.OK && !slotIsRight(s) {
					code = impl.ErrRange
				}
				if code == impl.OK && d.At > 9996 {
					code = impl.ErrFull
				}
				if code == impl.OK && (valueOf(d, s.Total) < s.Low || valueOf(d, s.Total) >= s.Low+s.Size) {
					code = impl.ErrState
				}
				want := impl.Decoder{}
				if code == impl.OK {
					want = takenOf(d, s)
				}
				wantDecoder(t, impl.TakeSlot(d, s), code, want, "TakeSlot", n, d.At, d.Rest, d.Range, s)
				counts[code]++
			}
		}
	}
	for _, code := range []int64{impl.OK, impl.ErrMany, impl.ErrRange, impl.ErrFull, impl.ErrState} {
		if counts[code] == 0 {
			t.Errorf("the code %d was never asked", code)
		}
	}
}

// TestTakeSlotAll asks each slot of short lines, at each value, with ranges and rests at their ends.
func TestTakeSlotAll(t *testing.T) {
	data := bytesOf(40, 7)
	for _, length := range []int64{65536, 65537, 65541, 16777215, 16777216} {
		for _, total := range []int64{1, 2, 3, 5, 6, 7} {
			unit := length / total
			for value := int64(0); value < total; value++ {
				for _, rest := range []int64{value * unit, value*unit + 1, (value+1)*unit - 1, length - 1} {
					for size := int64(1); size <= total; size++ {
						for low := int64(0); low <= total-size; low++ {
							wantTake(t, impl.Decoder{Data: data, At: 3 + value, Rest: rest, Range: length}, impl.Slot{Low: low, Size: size, Total: total})
						}
					}
				}
			}
		}
	}
}

// TestTakeSlotReads: a slot may need two bytes, in the data, across its end, and behind it.
func TestTakeSlotReads(t *testing.T) {
	for _, n := range []int{0, 1, 2, 3, 4, 5, 600} {
		data := slices.Repeat([]byte{255}, n)
		for _, at := range besides(1, int64(n+1), 9995) {
			d := impl.Decoder{Data: data, At: at, Rest: 63, Range: 65536}
			want := impl.Decoder{Data: data, At: at + 2, Rest: 63*65536 + 256*byteBehind(data, at) + byteBehind(data, at+1), Range: 64 * 65536}
			wantDecoder(t, impl.TakeSlot(d, impl.Slot{Size: 1, Total: 1024}), impl.OK, want, "TakeSlot", n, at)
		}
	}
	d := impl.Decoder{Data: []byte{9}, At: 0, Rest: 65535, Range: 65536}
	wantDecoder(t, impl.TakeSlot(d, impl.Slot{Low: 999, Size: 1, Total: 1000}), impl.OK, impl.Decoder{Data: []byte{9}, At: 1, Rest: 600*256 + 9, Range: 601 * 256}, "TakeSlot", "last")
}

// TestAnyBytes: whatever the bytes are, each line has one value there, and slots with it in them fit until there is no room.
func TestAnyBytes(t *testing.T) {
	r := rand.New(rand.NewSource(5))
	for _, n := range []int{0, 1, 2, 3, 4, 17, 100, 599, 600} {
		for _, data := range [][]byte{bytesOf(n, 1), bytesOf(n, 2), make([]byte, n), slices.Repeat([]byte{255}, n)} {
			d := impl.StartDecode(data).Decoder
			for d.At <= 9996 {
				s := anySlot(r)
				value := impl.NextValue(d, s.Total)
				wantInt(t, value, impl.OK, valueOf(d, s.Total), "NextValue", d, s.Total)
				s.Low = max(0, min(value.Value, s.Total-1)-r.Int63n(s.Size))
				s.Low = min(s.Low, s.Total-s.Size)
				next := impl.TakeSlot(d, s)
				wantDecoder(t, next, impl.OK, takenOf(d, s), "TakeSlot", n, d.At, s)
				if next.Code != impl.OK || impl.DecoderFault(next.Decoder) != impl.OK {
					t.Fatalf("%d bytes, at %d: %v", n, d.At, s)
				}
				d = next.Decoder
			}
			if d.At > 10000 {
				t.Errorf("%d bytes: at %d", n, d.At)
			}
			wantDecoder(t, impl.TakeSlot(d, impl.Slot{Size: 1, Total: 1}), impl.ErrFull, impl.Decoder{}, "TakeSlot at the end", n)
			wantInt(t, impl.NextValue(d, 7), impl.OK, valueOf(d, 7), "NextValue at the end", n)
		}
	}
}

// TestDecodedIsEncoded: the slots that bytes are decoded to have a code of their own that is read as they are.
func TestDecodedIsEncoded(t *testing.T) {
	r := rand.New(rand.NewSource(6))
	for n := range 60 {
		d := impl.StartDecode(bytesOf(n, uint32(n))).Decoder
		var list []impl.Slot
		for range 400 {
			total := 1 + r.Int63n(1024)
			s := impl.Slot{Low: impl.NextValue(d, total).Value, Size: 1, Total: total}
			list = append(list, s)
			d = impl.TakeSlot(d, s).Decoder
		}
		wantReadBack(t, list)
	}
}

func TestSameDecoders(t *testing.T) {
	list := []impl.Decoder{{}, {At: 1}, {Rest: 1}, {Range: 1}, {Data: []byte{0}}, {Data: []byte{1}}, {Data: []byte{0, 0}}, {Data: []byte{1, 2}}, {Data: []byte{1, 3}}, {Data: []byte{2, 1}},
		{Data: make([]byte, 700)}, {Data: make([]byte, 701)}, {At: math.MinInt64}, {At: math.MaxInt64}, {Rest: math.MinInt64}, {Rest: math.MaxInt64}, {Range: math.MinInt64}, {Range: math.MaxInt64},
		{Data: []byte{1}, At: 3, Rest: 65536, Range: 16777216}, {Data: []byte{1}, At: 3, Rest: 65536, Range: 16777215}, {Data: []byte{1}, At: 65536, Rest: 3, Range: 16777216}}
	for i, a := range list {
		for j, b := range list {
			if b.Data = slices.Clone(b.Data); impl.SameDecoders(a, b) != (i == j) {
				t.Errorf("SameDecoders of %v and %v", a, b)
			}
		}
	}
	if !impl.SameDecoders(impl.Decoder{Data: []byte{}, At: 4}, impl.Decoder{At: 4}) || !impl.SameDecoders(impl.Decoder{At: 4}, impl.Decoder{Data: []byte{}, At: 4}) {
		t.Error("nil is an empty list")
	}
}

// wantApart writes over the whole of data, then over all of an answer, and neither may reach the other.
func wantApart(t *testing.T, whole []byte, answer []byte, what string) {
	t.Helper()
	before, told := slices.Clone(whole), slices.Clone(answer)
	for i := range whole {
		whole[i] ^= 255
	}
	if !slices.Equal(answer, told) {
		t.Errorf("%s: the answer changed with its argument", what)
	}
	copy(whole, before)
	room := answer[:cap(answer)]
	for i := range room {
		room[i] ^= 255
	}
	if !slices.Equal(whole, before) {
		t.Errorf("%s: the argument changed with the answer", what)
	}
}

func TestRangeSharesNothing(t *testing.T) {
	for _, n := range []int{0, 1, 2, 3, 100, 597, 600, 601} {
		inside, whole := guardedBytes(bytesOf(n, 4))
		before := slices.Clone(whole)
		wantApart(t, whole, impl.StartDecode(inside).Decoder.Data, "StartDecode")
		for _, at := range []int64{0, 3, 600, 9996, 9997, 10001} {
			d := impl.Decoder{Data: inside, At: at, Rest: 7, Range: 65536}
			impl.DecoderFault(d)
			impl.NextValue(d, 3)
			impl.SameDecoders(d, d)
			for _, s := range []impl.Slot{{Size: 1, Total: 1}, {Size: 1, Total: 1024}, {Low: 1, Size: 1, Total: 2}} {
				wantApart(t, whole, impl.TakeSlot(d, s).Decoder.Data, "TakeSlot")
			}
		}
		if !slices.Equal(whole, before) {
			t.Errorf("%d bytes: %v became %v", n, before, whole)
		}
	}
}

func TestSlotsStay(t *testing.T) {
	r := rand.New(rand.NewSource(8))
	for _, n := range []int{0, 1, 2, 100, 400, 401} {
		whole := anySlots(r, n+3)
		before := slices.Clone(whole)
		one := impl.EncodeSlots(whole[:n])
		two := impl.EncodeSlots(whole[:n])
		impl.CostOf(whole[:n])
		if !slices.Equal(whole, before) {
			t.Errorf("%d slots were changed", n)
		}
		wantApart(t, one.Bytes, two.Bytes, "EncodeSlots twice")
	}
}

// TestRangeHangsOnArguments: the same arguments have the same answers, whatever was asked between.
func TestRangeHangsOnArguments(t *testing.T) {
	list := anySlots(rand.New(rand.NewSource(9)), 60)
	code := codeOf(list)
	d := impl.Decoder{Data: code, At: 5, Rest: 70000, Range: 80000}
	s := impl.Slot{Low: 8, Size: 2, Total: 10}
	for range 3 {
		wantBytes(t, impl.EncodeSlots(list), impl.OK, code, "EncodeSlots again")
		wantInt(t, impl.CostOf(list), impl.OK, int64(len(code)), "CostOf again")
		wantDecoder(t, impl.TakeSlot(d, s), impl.OK, takenOf(d, s), "TakeSlot again")
		wantInt(t, impl.NextValue(d, 10), impl.OK, 8, "NextValue again")
		wantBytes(t, impl.EncodeSlots(append(list, impl.Slot{})), impl.ErrRange, nil, "EncodeSlots between")
	}
	wantDecoder(t, impl.StartDecode(nil), impl.OK, impl.StartDecode([]byte{}).Decoder, "StartDecode of nothing")
}
