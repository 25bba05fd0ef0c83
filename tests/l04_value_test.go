package tests

import (
	"math/rand"
	"slices"
	"strconv"
	"testing"

	"loop.example/g00657/impl"
)

// classSizes and classLows are the slots of all classes, written out.
var classSizes = []int64{96, 48, 40, 24, 16, 8, 2, 2, 2, 2, 2, 2, 2, 2, 2, 2, 2, 2}
var classLows = []int64{0, 96, 144, 184, 208, 224, 232, 234, 236, 238, 240, 242, 244, 246, 248, 250, 252, 254}

// edgeValues lie where a class begins or ends, on both sides of 0, with all that are next to 0 and to the ends.
var edgeValues = edgesOfClasses()

func edgesOfClasses() []int64 {
	list := []int64{0, 1, -1, 2, -2, 3, -3, 65535, 65534, 65533, -65535, -65534, -65533}
	for k := 2; k < 17; k++ {
		for _, v := range besides(1 << (k - 1)) {
			list = append(list, v, -v)
		}
	}
	slices.Sort(list)
	return slices.Compact(list)
}

// zigged has the value of each ZigOf at its place: from 0 on by turns below and above it.
var zigged = zigs()

func zigs() []int64 {
	list := []int64{0}
	for v := int64(1); v <= 65535; v++ {
		list = append(list, -v, v)
	}
	return list
}

// zigOf does without what is tested.
func zigOf(v int64) int64 {
	if v < 0 {
		return 2*-v - 1
	}
	return 2 * v
}

func slotOfClass(class int) impl.Slot {
	return impl.Slot{Low: classLows[class], Size: classSizes[class], Total: 256}
}

// slotOfDigits is the slot of a piece, read as a text of binary digits.
func slotOfDigits(text string) impl.Slot {
	x, err := strconv.ParseInt(text, 2, 64)
	if err != nil {
		panic(err)
	}
	return impl.Slot{Low: x, Size: 1, Total: 1 << len(text)}
}

// slotsOfZig cuts the ZigOf as a text; it tells those that no value has, too.
func slotsOfZig(zig int64) []impl.Slot {
	if zig == 0 {
		return []impl.Slot{slotOfClass(0)}
	}
	text := strconv.FormatInt(zig, 2)
	list := []impl.Slot{slotOfClass(len(text))}
	rest := text[1:]
	if len(rest) > 8 {
		list = append(list, slotOfDigits(rest[:len(rest)-8]))
		rest = rest[len(rest)-8:]
	}
	if len(rest) > 0 {
		list = append(list, slotOfDigits(rest))
	}
	return list
}

func slotsOfZigs(list []int64) []impl.Slot {
	var out []impl.Slot
	for _, zig := range list {
		out = append(out, slotsOfZig(zig)...)
	}
	return out
}

// codeOfValues is what EncodeValues has to tell of values.
func codeOfValues(list []int64) []byte {
	var slots []impl.Slot
	for _, v := range list {
		slots = append(slots, slotsOfZig(zigOf(v))...)
	}
	return codeOf(slots)
}

// zigsIn reads n of them from any bytes.
func zigsIn(data []byte, n int) []int64 {
	d := impl.Decoder{Data: data, At: 3, Rest: byteBehind(data, 0)*65536 + byteBehind(data, 1)*256 + byteBehind(data, 2), Range: 16777216}
	var list []int64
	for range n {
		at := valueOf(d, 256)
		class := 17
		for classLows[class] > at {
			class--
		}
		d = takenOf(d, slotOfClass(class))
		text := "1"
		for len(text) < class {
			digits := class - len(text)
			if digits > 8 {
				digits -= 8
			}
			x := valueOf(d, 1<<digits)
			d = takenOf(d, impl.Slot{Low: x, Size: 1, Total: 1 << digits})
			text += strconv.FormatInt(1<<digits+x, 2)[1:]
		}
		if class == 0 {
			text = "0"
		}
		zig, _ := strconv.ParseInt(text, 2, 64)
		list = append(list, zig)
	}
	return list
}

// valuesIn are the n values whose code data is; false: there are none.
func valuesIn(data []byte, n int) ([]int64, bool) {
	var list []int64
	read := zigsIn(data, n)
	for _, zig := range read {
		if zig >= int64(len(zigged)) {
			return nil, false
		}
	}
	if !slices.Equal(codeOf(slotsOfZigs(read)), data) {
		return nil, false
	}
	for _, zig := range read {
		list = append(list, zigged[zig])
	}
	return list, true
}

func wantInts(t *testing.T, got impl.IntsResult, code int64, want []int64, what string, args ...any) {
	t.Helper()
	if got.Code != code || !slices.Equal(got.List, want) {
		t.Errorf("%s %v: got %+v, want code %d, list %v", what, args, got, code, want)
	}
}

func wantSlots(t *testing.T, got impl.SlotsResult, code int64, want []impl.Slot, what string, args ...any) {
	t.Helper()
	if got.Code != code || !slices.Equal(got.List, want) {
		t.Errorf("%s %v: got %+v, want code %d, slots %v", what, args, got, code, want)
	}
}

// wantDecoded asks DecodeValues of any bytes that are not too many, and n that is let.
func wantDecoded(t *testing.T, data []byte, n int) bool {
	t.Helper()
	want, ok := valuesIn(data, n)
	code := int64(impl.ErrText)
	if ok {
		code = impl.OK
	}
	wantInts(t, impl.DecodeValues(data, int64(n)), code, want, "DecodeValues", data, n)
	return ok
}

// wantValuesBack encodes values and reads them back; a byte 0 behind them makes them no code any more.
func wantValuesBack(t *testing.T, list []int64) {
	t.Helper()
	told := impl.EncodeValues(list)
	wantBytes(t, told, impl.OK, codeOfValues(list), "EncodeValues", list)
	wantInts(t, impl.DecodeValues(told.Bytes, int64(len(list))), impl.OK, list, "DecodeValues", list)
	wantInts(t, impl.DecodeValues(append(slices.Clone(told.Bytes), 0), int64(len(list))), impl.ErrText, nil, "DecodeValues with a 0 behind", list)
}

// anyValue is as often of one class as of another.
func anyValue(r *rand.Rand) int64 {
	if r.Intn(4) == 0 {
		return edgeValues[r.Intn(len(edgeValues))]
	}
	v := r.Int63n(1 << r.Intn(17))
	if r.Intn(2) == 0 {
		return -v
	}
	return v
}

func anyValues(r *rand.Rand, n int) []int64 {
	list := make([]int64, n)
	for i := range list {
		list[i] = anyValue(r)
	}
	return list
}

// beyondValues are the first ones that are no values, and ones where sums overflow.
func beyondValues() []int64 {
	return append([]int64{65536, -65536, 65537, -65537, 131070, -131070}, farNumbers...)
}

func TestValueConstants(t *testing.T) {
	if got := []int64{impl.MaxValue, impl.MaxValues, impl.MaxClass}; !slices.Equal(got, []int64{65535, 64, 17}) {
		t.Error(got)
	}
}

func TestZigAll(t *testing.T) {
	if len(zigged) != 131071 {
		t.Fatal(len(zigged))
	}
	for z, v := range zigged {
		wantInt(t, impl.ZigOf(v), impl.OK, int64(z), "ZigOf", v)
		wantInt(t, impl.UnzigOf(int64(z)), impl.OK, v, "UnzigOf", z)
	}
	rows := []struct{ v, z int64 }{{0, 0}, {-1, 1}, {1, 2}, {-2, 3}, {2, 4}, {-65535, 131069}, {65535, 131070}}
	for _, r := range rows {
		wantInt(t, impl.ZigOf(r.v), impl.OK, r.z, "ZigOf", r.v)
		wantInt(t, impl.UnzigOf(r.z), impl.OK, r.v, "UnzigOf", r.z)
	}
}

func TestZigFaults(t *testing.T) {
	for _, v := range beyondValues() {
		wantInt(t, impl.ZigOf(v), impl.ErrRange, 0, "ZigOf", v)
	}
	for _, z := range append([]int64{-1, -2, -65535, -131070, 131071, 131072, 262144}, farNumbers...) {
		wantInt(t, impl.UnzigOf(z), impl.ErrRange, 0, "UnzigOf", z)
	}
}

func TestClassSlot(t *testing.T) {
	end := int64(0)
	for class := range 18 {
		got := impl.ClassSlot(int64(class))
		wantSlots(t, got, impl.OK, []impl.Slot{slotOfClass(class)}, "ClassSlot", class)
		if s := got.List[0]; s.Low != end || impl.SlotFault(s) != impl.OK {
			t.Errorf("class %d: %v does not begin at %d", class, s, end)
		}
		end = got.List[0].Low + got.List[0].Size
	}
	if end != 256 {
		t.Errorf("the classes end at %d", end)
	}
	for _, class := range append([]int64{-1, -2, -17, 18, 19, 64, 255, 256}, farNumbers...) {
		wantSlots(t, impl.ClassSlot(class), impl.ErrRange, nil, "ClassSlot", class)
	}
}

func TestSlotsOfExamples(t *testing.T) {
	rows := []struct {
		v    int64
		want []impl.Slot
	}{
		{0, []impl.Slot{{Low: 0, Size: 96, Total: 256}}},
		{-1, []impl.Slot{{Low: 96, Size: 48, Total: 256}}},
		{1, []impl.Slot{{Low: 144, Size: 40, Total: 256}, {Low: 0, Size: 1, Total: 2}}},
		{-2, []impl.Slot{{Low: 144, Size: 40, Total: 256}, {Low: 1, Size: 1, Total: 2}}},
		{3, []impl.Slot{{Low: 184, Size: 24, Total: 256}, {Low: 2, Size: 1, Total: 4}}},
		// the class 9 has a rest of 8 digits: the zigs 256 to 511
		{128, []impl.Slot{{Low: 238, Size: 2, Total: 256}, {Low: 0, Size: 1, Total: 256}}},
		{-256, []impl.Slot{{Low: 238, Size: 2, Total: 256}, {Low: 255, Size: 1, Total: 256}}},
		// the class 10 has one of 9, which are told by two pieces: the zigs 512 to 1023
		{256, []impl.Slot{{Low: 240, Size: 2, Total: 256}, {Low: 0, Size: 1, Total: 2}, {Low: 0, Size: 1, Total: 256}}},
		{-384, []impl.Slot{{Low: 240, Size: 2, Total: 256}, {Low: 0, Size: 1, Total: 2}, {Low: 255, Size: 1, Total: 256}}},
		{384, []impl.Slot{{Low: 240, Size: 2, Total: 256}, {Low: 1, Size: 1, Total: 2}, {Low: 0, Size: 1, Total: 256}}},
		{-512, []impl.Slot{{Low: 240, Size: 2, Total: 256}, {Low: 1, Size: 1, Total: 2}, {Low: 255, Size: 1, Total: 256}}},
		{32768, []impl.Slot{{Low: 254, Size: 2, Total: 256}, {Low: 0, Size: 1, Total: 256}, {Low: 0, Size: 1, Total: 256}}},
		{65535, []impl.Slot{{Low: 254, Size: 2, Total: 256}, {Low: 255, Size: 1, Total: 256}, {Low: 254, Size: 1, Total: 256}}},
		{-65535, []impl.Slot{{Low: 254, Size: 2, Total: 256}, {Low: 255, Size: 1, Total: 256}, {Low: 253, Size: 1, Total: 256}}},
	}
	for _, r := range rows {
		wantSlots(t, impl.SlotsOf(r.v), impl.OK, r.want, "SlotsOf", r.v)
	}
}

func TestSlotsOfAll(t *testing.T) {
	for z, v := range zigged {
		got := impl.SlotsOf(v)
		wantSlots(t, got, impl.OK, slotsOfZig(int64(z)), "SlotsOf", v)
		for _, s := range got.List {
			wantCode(t, impl.SlotFault(s), impl.OK, "SlotFault of SlotsOf", v, s)
		}
	}
	for _, v := range beyondValues() {
		wantSlots(t, impl.SlotsOf(v), impl.ErrRange, nil, "SlotsOf", v)
	}
}

func TestEncodeValuesExamples(t *testing.T) {
	rows := []struct {
		list []int64
		want string
	}{
		{nil, ""}, {[]int64{}, ""}, {[]int64{0}, ""}, {filled(64, 0), ""}, {[]int64{-1}, "\x60"}, {[]int64{-1, 0}, "\x60"}, {filled(1, 1), "\x90"},
		{[]int64{-2}, "\xa4"},            // 144 and half of 40 together
		{[]int64{0, -1}, "\x24"},         // 96 times 96 divided by 256
		{[]int64{32768}, "\xfe"},         // a rest of noughts
		{[]int64{128}, "\xee"},           // so, of 8 digits
		{[]int64{-256}, "\xef\xfe"},      // 238, and 2 times 255 divided by 256
		{[]int64{256}, "\xf0"},           // so, of 9 digits
		{[]int64{384}, "\xf1"},           // the piece ahead tells one half
		{[]int64{-384}, "\xf0\xff"},      // the piece behind tells 255 parts of that half
		{[]int64{65535}, "\xff\xff\xfc"}, // 254, and 2 times 65534 divided by 65536
		{[]int64{-65535}, "\xff\xff\xfa"},
	}
	for _, r := range rows {
		wantBytes(t, impl.EncodeValues(r.list), impl.OK, []byte(r.want), "EncodeValues", r.list)
		wantInts(t, impl.DecodeValues([]byte(r.want), int64(len(r.list))), impl.OK, r.list, "DecodeValues", r.want)
	}
}

// TestOneValueAll: each value is read back, alone and with others around it.
func TestOneValueAll(t *testing.T) {
	for v := int64(-65535); v <= 65535; v++ {
		wantValuesBack(t, []int64{v})
	}
	for _, v := range edgeValues {
		wantValuesBack(t, []int64{v, 0})
		wantValuesBack(t, []int64{0, v})
		for _, w := range edgeValues {
			wantValuesBack(t, []int64{v, w})
		}
		wantValuesBack(t, filled(63, v))
		wantValuesBack(t, filled(64, v))
		wantValuesBack(t, append(filled(32, v), filled(32, -v)...))
	}
}

func TestManyValues(t *testing.T) {
	r := rand.New(rand.NewSource(41))
	for n := range 65 {
		for range 20 {
			wantValuesBack(t, anyValues(r, n))
		}
	}
}

func TestEncodeValuesFaults(t *testing.T) {
	for _, w := range beyondValues() {
		for _, n := range []int{1, 2, 63, 64} {
			for _, at := range []int{0, n / 2, n - 1} {
				wantBytes(t, impl.EncodeValues(withAt(filled(n, 5), at, w)), impl.ErrRange, nil, "EncodeValues", n, at, w)
			}
		}
		for _, n := range []int{65, 66, 400, 5000} {
			wantBytes(t, impl.EncodeValues(filled(n, w)), impl.ErrMany, nil, "EncodeValues", n, w)
		}
	}
	for _, v := range []int64{0, 65535} {
		wantBytes(t, impl.EncodeValues(filled(65, v)), impl.ErrMany, nil, "EncodeValues", 65, v)
		wantBytes(t, impl.EncodeValues(filled(64, v)), impl.OK, codeOfValues(filled(64, v)), "EncodeValues", 64, v)
	}
}

// TestDecodeValuesCodes: too many bytes are told first, then a wrong n, then what cannot be read.
func TestDecodeValuesCodes(t *testing.T) {
	for _, fill := range []byte{0, 1, 128, 255} {
		for _, n := range append([]int64{0, 1, 63, 64, -1, -2, 65, 66, 400}, farNumbers...) {
			for _, size := range []int{601, 602, 5000} {
				wantInts(t, impl.DecodeValues(slices.Repeat([]byte{fill}, size), n), impl.ErrMany, nil, "DecodeValues", size, fill, n)
			}
			code := int64(impl.ErrRange)
			if n >= 0 && n <= 64 {
				code = impl.ErrText
			}
			for _, size := range []int{300, 599, 600} {
				wantInts(t, impl.DecodeValues(slices.Repeat([]byte{fill}, size), n), code, nil, "DecodeValues", size, fill, n)
			}
			if code == impl.ErrRange {
				wantInts(t, impl.DecodeValues(nil, n), code, nil, "DecodeValues of nothing", n)
			}
		}
	}
}

// TestNoBytes: they tell noughts, as many as are asked, and no other bytes do.
func TestNoBytes(t *testing.T) {
	for n := range 65 {
		for _, data := range [][]byte{nil, {}} {
			wantInts(t, impl.DecodeValues(data, int64(n)), impl.OK, filled(n, 0), "DecodeValues of nothing", n)
		}
		wantInts(t, impl.DecodeValues([]byte{0}, int64(n)), impl.ErrText, nil, "DecodeValues of a byte 0", n)
	}
	for b := range 256 {
		for _, data := range [][]byte{{byte(b)}, {byte(b), 1}, {0, byte(b)}} {
			wantInts(t, impl.DecodeValues(data, 0), impl.ErrText, nil, "DecodeValues of no values", data)
		}
	}
}

// TestOtherNumber: noughts behind values take no byte; without its last value, where that is not 0, a list is no other.
func TestOtherNumber(t *testing.T) {
	r := rand.New(rand.NewSource(42))
	for n := 1; n <= 64; n++ {
		list := anyValues(r, n)
		list[n-1] = edgeValues[r.Intn(len(edgeValues))]
		code := codeOfValues(list)
		for more := range 65 - n {
			wantInts(t, impl.DecodeValues(code, int64(n+more)), impl.OK, append(slices.Clone(list), filled(more, 0)...), "DecodeValues of more", list, more)
		}
		if list[n-1] == 0 {
			list[n-1] = 1
			code = codeOfValues(list)
		}
		for fewer := range n {
			wantInts(t, impl.DecodeValues(code, int64(fewer)), impl.ErrText, nil, "DecodeValues of fewer", list, fewer)
		}
	}
}

// TestOneValueOfShortData holds all data of no more than two bytes against all values' codes.
func TestOneValueOfShortData(t *testing.T) {
	codes := map[string]int64{}
	for v := int64(-65535); v <= 65535; v++ {
		codes[string(codeOfValues([]int64{v}))] = v
	}
	if len(codes) != 131071 {
		t.Fatalf("%d values have a code of their own", len(codes))
	}
	ask := func(data []byte) {
		if v, ok := codes[string(data)]; ok {
			wantInts(t, impl.DecodeValues(data, 1), impl.OK, []int64{v}, "DecodeValues", data)
			return
		}
		wantInts(t, impl.DecodeValues(data, 1), impl.ErrText, nil, "DecodeValues", data)
	}
	for a := range 256 {
		ask([]byte{byte(a)})
		for b := range 256 {
			ask([]byte{byte(a), byte(b)})
			ask([]byte{255, byte(a), byte(b)}) // the greatest values, and what is beyond them
		}
	}
}

// TestShortData asks all data of one byte, and many of more, for a few values.
func TestShortData(t *testing.T) {
	told := 0
	for n := range 6 {
		for a := range 256 {
			if wantDecoded(t, []byte{byte(a)}, n) {
				told++
			}
			for b := range 256 {
				if (a+b)%37 == n && wantDecoded(t, []byte{byte(a), byte(b)}, n) {
					told++
				}
			}
		}
	}
	if told == 0 {
		t.Error("no data told values")
	}
}

// TestBytesBehind: what stands behind a code is a code of its own only where it tells other values.
func TestBytesBehind(t *testing.T) {
	r := rand.New(rand.NewSource(43))
	refused := 0
	for n := range 65 {
		code := codeOfValues(anyValues(r, n))
		for _, behind := range [][]byte{{0}, {1}, {255}, {0, 0}, {0, 1}, {1, 0}, {128, 7, 9}, bytesOf(20, uint32(n))} {
			if !wantDecoded(t, append(slices.Clone(code), behind...), n) {
				refused++
			}
		}
		if len(code) > 0 {
			wantDecoded(t, code[:len(code)-1], n)
		}
	}
	if refused < 65*4 {
		t.Errorf("only %d were refused", refused)
	}
	for _, v := range []int64{0, -1, 1, 128, 256, 65535} { // just what is asked, and nothing behind it
		code := codeOfValues([]int64{v})
		for _, size := range []int{4, 100, 600} {
			wantInts(t, impl.DecodeValues(append(slices.Clone(code), bytesOf(size-len(code), 44)...), 1), impl.ErrText, nil, "DecodeValues of a long code", v, size)
		}
	}
}

// TestRestOfNoValue: the greatest class has one rest that no value has; wherever it stands, nothing is told.
func TestRestOfNoValue(t *testing.T) {
	alone := codeOf(slotsOfZig(131071))
	if string(alone) != "\xff\xff\xfe" {
		t.Fatal(alone)
	}
	wantInts(t, impl.DecodeValues(alone, 1), impl.ErrText, nil, "DecodeValues", alone)
	r := rand.New(rand.NewSource(45))
	for _, n := range []int{1, 2, 3, 31, 63, 64} {
		for at := range n {
			var list []int64
			for _, v := range anyValues(r, n) {
				list = append(list, zigOf(v))
			}
			list[at] = 131071
			code := codeOf(slotsOfZigs(list))
			for asked := range 65 {
				wantInts(t, impl.DecodeValues(code, int64(asked)), impl.ErrText, nil, "DecodeValues", list, asked)
			}
			list[at] = 131070 // the value beside it is told
			got := impl.DecodeValues(codeOf(slotsOfZigs(list)), int64(n))
			if got.Code != impl.OK || len(got.List) != n || got.List[at] != 65535 {
				t.Errorf("%v: got %+v", list, got)
			}
		}
	}
}

// TestAnyData: whatever the bytes are, they tell their values or nothing.
func TestAnyData(t *testing.T) {
	for seed := range uint32(300) {
		size := int(seed) % 12
		data := bytesOf(size, seed)
		for _, n := range []int{0, 1, 2, size, 3 * size, 64} {
			wantDecoded(t, data, n)
		}
	}
	for _, fill := range []byte{0, 1, 127, 128, 254, 255} {
		for size := range 12 {
			for n := range 12 {
				wantDecoded(t, slices.Repeat([]byte{fill}, size), n)
			}
		}
	}
}

// TestBitsOfACode turns each bit of a code: what is told then is other values, or nothing.
func TestBitsOfACode(t *testing.T) {
	list := []int64{5, -300, 65535, 0, -1, 128, -32768, 7}
	code := codeOfValues(list)
	for at := range 8 * len(code) {
		turned := slices.Clone(code)
		turned[at/8] ^= 128 >> (at % 8)
		wantDecoded(t, turned, len(list))
		if slices.Equal(impl.DecodeValues(turned, int64(len(list))).List, list) {
			t.Errorf("bit %d: other bytes tell the same values", at)
		}
	}
}

// wantOwn writes over all the memory of one answer; another one stays.
func wantOwn[T any](t *testing.T, ask func() []T, same func(a []T, b []T) bool, what string) {
	t.Helper()
	one, two := ask(), ask()
	told := slices.Clone(two)
	clear(one[:cap(one)])
	if !same(two, told) || !same(ask(), told) {
		t.Errorf("%s: two answers share memory", what)
	}
}

func TestValueAnswersAreNew(t *testing.T) {
	for class := range int64(18) {
		wantOwn(t, func() []impl.Slot { return impl.ClassSlot(class).List }, slices.Equal, "ClassSlot")
	}
	for _, v := range edgeValues {
		wantOwn(t, func() []impl.Slot { return impl.SlotsOf(v).List }, slices.Equal, "SlotsOf")
		list := []int64{v, 1, -v}
		wantOwn(t, func() []byte { return impl.EncodeValues(list).Bytes }, slices.Equal, "EncodeValues")
		code := codeOfValues(list)
		wantOwn(t, func() []int64 { return impl.DecodeValues(code, 3).List }, slices.Equal, "DecodeValues")
	}
}

func TestValueArgumentsStay(t *testing.T) {
	r := rand.New(rand.NewSource(46))
	for _, n := range []int{0, 1, 2, 63, 64, 65} {
		inside, whole := guarded(anyValues(r, n))
		before := slices.Clone(whole)
		impl.EncodeValues(inside)
		if n > 0 {
			inside[n-1], before[n-1] = 65536, 65536
			impl.EncodeValues(inside)
		}
		if !slices.Equal(whole, before) {
			t.Errorf("EncodeValues of %d: %v became %v", n, before, whole)
		}
	}
	for _, n := range []int{0, 1, 2, 64} {
		code := codeOfValues(anyValues(r, n))
		for _, data := range [][]byte{code, append(slices.Clone(code), 0), bytesOf(599, 47), bytesOf(600, 48), bytesOf(601, 49)} {
			inside, whole := guardedBytes(data)
			before := slices.Clone(whole)
			for _, asked := range []int64{int64(n), int64(n) - 1, 64, 65} {
				impl.DecodeValues(inside, asked)
			}
			if !slices.Equal(whole, before) {
				t.Errorf("DecodeValues of %d bytes: %v became %v", len(data), before, whole)
			}
		}
	}
}

// TestValuesHangOnArguments: a call that cannot be read leaves nothing behind for the next one.
func TestValuesHangOnArguments(t *testing.T) {
	list := anyValues(rand.New(rand.NewSource(50)), 40)
	code := codeOfValues(list)
	for range 3 {
		wantInts(t, impl.DecodeValues(code, 40), impl.OK, list, "DecodeValues again")
		wantInts(t, impl.DecodeValues(append(slices.Clone(code), 0), 40), impl.ErrText, nil, "DecodeValues between")
		wantBytes(t, impl.EncodeValues(list), impl.OK, code, "EncodeValues again")
		wantBytes(t, impl.EncodeValues(append(slices.Clone(list), 65536)), impl.ErrRange, nil, "EncodeValues between")
	}
}
