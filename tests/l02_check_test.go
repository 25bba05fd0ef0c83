package tests

import (
	"math"
	"math/big"
	"slices"
	"strconv"
	"testing"

	"loop.example/g00657/impl"
)

// packetLengths go from no byte to as many as are let.
var packetLengths = []int{0, 1, 2, 3, 7, 8, 16, 100, 157, 158, 159, 160}

// sumOf is what is left of a division of polynomials: the data, with sixteen zeros behind it and its first sixteen bits turned, by x^16 + x^12 + x^5 + 1
// (ones over the first sixteen bits are the same as a register that has them at first).
func sumOf(data []byte) int64 {
	long := append(slices.Clone(data), 0, 0)
	long[0] ^= 255
	long[1] ^= 255
	n := new(big.Int).SetBytes(long)
	for by := big.NewInt(1<<16 | 4129); n.BitLen() > 16; {
		n.Xor(n, new(big.Int).Lsh(by, uint(n.BitLen()-17)))
	}
	return n.Int64()
}

// turnedOf turns digits in the data written as a text of binary digits; false: one of them is not there.
func turnedOf(data []byte, at int64, bits int64) ([]byte, bool) {
	var digits []byte
	for _, b := range data {
		text := strconv.FormatInt(256+int64(b), 2)[1:]
		digits = append(digits, text...)
	}
	for i, d := range strconv.FormatInt(bits, 2) {
		if d == '0' {
			continue
		}
		if at+int64(i) >= int64(len(digits)) {
			return nil, false
		}
		digits[at+int64(i)] ^= 1 // '0' and '1' differ by their last bit alone
	}
	out := make([]byte, len(data))
	for i := range out {
		b, _ := strconv.ParseUint(string(digits[8*i:8*i+8]), 2, 8)
		out[i] = byte(b)
	}
	return out, true
}

// wantFlip asks one call of FlipBits whose data is no longer than is let.
func wantFlip(t *testing.T, data []byte, at int64, bits int64) {
	t.Helper()
	if at < 0 || at >= 8*int64(len(data)) || bits < 1 || bits > 65535 {
		wantBytes(t, impl.FlipBits(data, at, bits), impl.ErrRange, nil, "FlipBits", len(data), at, bits)
		return
	}
	want, ok := turnedOf(data, at, bits)
	code := int64(impl.OK)
	if !ok {
		code = impl.ErrRange
	}
	wantBytes(t, impl.FlipBits(data, at, bits), code, want, "FlipBits", len(data), at, bits)
}

func TestCrcOfExamples(t *testing.T) {
	if impl.MaxPacket != 160 {
		t.Error("MaxPacket")
	}
	rows := []struct {
		data string
		want int64
	}{
		{"", 65535}, {"123456789", 0x29b1}, {"A", 0xb915}, {"\x00", 0xe1f0}, {"\xff", 0xff00}, {"\xff\xff", 0}, {"\x00\x00", 0x1d0f},
	}
	for _, r := range rows {
		wantInt(t, impl.CrcOf([]byte(r.data)), impl.OK, r.want, "CrcOf", r.data)
	}
	wantInt(t, impl.CrcOf(nil), impl.OK, 65535, "CrcOf nil")
}

func TestCrcOfAll(t *testing.T) {
	for v := range 65536 {
		data := []byte{byte(v >> 8), byte(v)}
		wantInt(t, impl.CrcOf(data), impl.OK, sumOf(data), "CrcOf", data)
	}
	for n := 0; n <= 160; n++ {
		for seed := range uint32(5) {
			data := bytesOf(n, seed)
			wantInt(t, impl.CrcOf(data), impl.OK, sumOf(data), "CrcOf", n, seed)
		}
	}
}

func TestSealOpen(t *testing.T) {
	for n := 0; n <= 158; n++ {
		data := bytesOf(n, uint32(n))
		sum := impl.CrcOf(data).Value
		want := append(slices.Clone(data), byte(sum/256), byte(sum%256))
		sealed := impl.SealBytes(data)
		wantBytes(t, sealed, impl.OK, want, "SealBytes", n)
		wantBytes(t, impl.OpenBytes(sealed.Bytes), impl.OK, data, "OpenBytes", n)
	}
	wantBytes(t, impl.SealBytes(nil), impl.OK, []byte{255, 255}, "SealBytes nil")
	wantBytes(t, impl.SealBytes([]byte("123456789")), impl.OK, []byte("123456789\x29\xb1"), "SealBytes")
	wantBytes(t, impl.OpenBytes([]byte{255, 255}), impl.OK, nil, "OpenBytes of a sum alone")
}

// TestOpenAll: of all sums behind given bytes just one opens them.
func TestOpenAll(t *testing.T) {
	for _, data := range [][]byte{nil, {0}, {255}, {1, 2, 3}} {
		right := impl.CrcOf(data).Value
		for sum := range int64(65536) {
			code, want := int64(impl.ErrSum), []byte(nil)
			if sum == right {
				code, want = impl.OK, data
			}
			wantBytes(t, impl.OpenBytes(append(slices.Clone(data), byte(sum>>8), byte(sum))), code, want, "OpenBytes", data, sum)
		}
	}
}

func TestSumFaults(t *testing.T) {
	for _, n := range []int{161, 162, 200, 70000} {
		wantInt(t, impl.CrcOf(make([]byte, n)), impl.ErrMany, 0, "CrcOf", n)
		wantBytes(t, impl.SealBytes(make([]byte, n)), impl.ErrMany, nil, "SealBytes", n)
		wantBytes(t, impl.OpenBytes(make([]byte, n)), impl.ErrMany, nil, "OpenBytes", n)
	}
	wantInt(t, impl.CrcOf(make([]byte, 160)), impl.OK, sumOf(make([]byte, 160)), "CrcOf", 160)
	for _, n := range []int{159, 160} {
		wantBytes(t, impl.SealBytes(make([]byte, n)), impl.ErrMany, nil, "SealBytes", n)
	}
	for n := 2; n <= 160; n++ {
		wantBytes(t, impl.OpenBytes(make([]byte, n)), impl.ErrSum, nil, "OpenBytes of zeros", n)
	}
	for _, data := range [][]byte{nil, {}, {0}, {255}} {
		wantBytes(t, impl.OpenBytes(data), impl.ErrMany, nil, "OpenBytes", data)
	}
}

// TestOpenTooLong: of data with a right sum and one byte too many the number is told, not the sum.
func TestOpenTooLong(t *testing.T) {
	data := bytesOf(159, 1)
	sum := sumOf(data)
	wantBytes(t, impl.OpenBytes(append(data, byte(sum>>8), byte(sum))), impl.ErrMany, nil, "OpenBytes", 161)
}

func TestFlipBitsExamples(t *testing.T) {
	rows := []struct {
		data     string
		at, bits int64
		want     string
	}{
		{"\x00\x00", 7, 3, "\x01\x80"}, {"\x00", 0, 5, "\xa0"}, {"\x00", 0, 1, "\x80"}, {"\x00", 7, 1, "\x01"}, {"\xff", 7, 1, "\xfe"},
		{"\x00\x00", 0, 65535, "\xff\xff"}, {"\x00\x00\x00", 8, 65535, "\x00\xff\xff"}, {"\x00\x00\x00", 4, 65535, "\x0f\xff\xf0"},
		{"\x00\x00\x00", 4, 32769, "\x08\x00\x10"}, {"\xaa\x55", 0, 32769, "\x2a\x54"},
		{"\x00", 7, 32768, "\x01"}, {"\x00", 6, 6, "\x03"}, {"\x00", 5, 12, "\x06"}, {"\x00", 7, 2, "\x01"},
	}
	for _, r := range rows {
		wantBytes(t, impl.FlipBits([]byte(r.data), r.at, r.bits), impl.OK, []byte(r.want), "FlipBits", r)
	}
}

// TestFlipBitsAll asks each run of bits at each place of short data, ends and beyond among them.
func TestFlipBitsAll(t *testing.T) {
	for n := range 4 {
		data := bytesOf(n, 9)
		for at := int64(-2); at <= int64(8*n+2); at++ {
			for bits := int64(-3); bits <= 65540; bits += 1 + bits/64 {
				wantFlip(t, data, at, bits)
			}
			for _, bits := range besides(0, 32768, 65535) {
				wantFlip(t, data, at, bits)
			}
		}
	}
}

func TestFlipBitsEnds(t *testing.T) {
	for _, n := range packetLengths {
		data := bytesOf(n, 5)
		end := int64(8 * n)
		ats := append(besides(0, 7, 8, end-17, end-16, end-15, end-9, end-8, end-2, end-1, end), farNumbers...)
		for _, at := range ats {
			for _, bits := range append(besides(0, 3, 5, 255, 32768, 65535), farNumbers...) {
				wantFlip(t, data, at, bits)
			}
		}
	}
}

// TestFlipBitsOrder: too many bytes are told ahead of numbers that leave their bounds.
func TestFlipBitsOrder(t *testing.T) {
	for _, n := range []int{161, 162, 1000} {
		for _, at := range append(besides(0, 1287, int64(8*n)), farNumbers...) {
			for _, bits := range besides(0, 65535) {
				wantBytes(t, impl.FlipBits(make([]byte, n), at, bits), impl.ErrMany, nil, "FlipBits", n, at, bits)
			}
		}
	}
	wantBytes(t, impl.FlipBits(nil, 0, 1), impl.ErrRange, nil, "FlipBits of nothing")
}

// TestFlipTwice: what is turned twice is as it was, and once it is not.
func TestFlipTwice(t *testing.T) {
	data := bytesOf(160, 3)
	for at := range int64(1280) {
		for _, bits := range []int64{1, 2, 3, 0x8001, 0xffff, 0xa5a5} {
			once := impl.FlipBits(data, at, bits)
			if once.Code != impl.OK {
				continue
			}
			if slices.Equal(once.Bytes, data) {
				t.Fatalf("nothing turned: %d, %d", at, bits)
			}
			wantBytes(t, impl.FlipBits(once.Bytes, at, bits), impl.OK, data, "FlipBits twice", at, bits)
		}
	}
}

// wantTold turns bits of what was sealed; where that can be done, it must not open.
func wantTold(t *testing.T, sealed []byte, at int64, bits int64) {
	t.Helper()
	turned := impl.FlipBits(sealed, at, bits)
	if turned.Code == impl.OK {
		wantBytes(t, impl.OpenBytes(turned.Bytes), impl.ErrSum, nil, "OpenBytes of what was turned", len(sealed), at, bits)
	}
}

// TestTurnedIsTold asks all runs within sixteen bits in short packets: in the data, in the sum, and across the seam.
func TestTurnedIsTold(t *testing.T) {
	for n := range 4 {
		sealed := impl.SealBytes(bytesOf(n, 4)).Bytes
		for at := range int64(8 * len(sealed)) {
			for bits := int64(1); bits < 65536; bits += 2 { // an even one turns what a smaller odd one does
				wantTold(t, sealed, at, bits)
			}
		}
	}
}

func TestTurnedIsToldLong(t *testing.T) {
	for _, n := range []int{50, 158} {
		sealed := impl.SealBytes(bytesOf(n, 6)).Bytes
		end := int64(8 * len(sealed))
		for at := range end {
			for _, bits := range []int64{1, 3, 5, 255, 257, 4129, 0x8001, 0x8811, 0xffff} {
				wantTold(t, sealed, at, bits)
			}
		}
		for at := end - 34; at < end; at++ {
			for bits := int64(1); bits < 65536; bits += 102 {
				wantTold(t, sealed, at, bits)
			}
		}
	}
}

// sumsAt is all that the chapter's functions tell of data, at and bits.
func sumsAt(data []byte, at int64, bits int64) (impl.IntResult, [3]impl.BytesResult) {
	return impl.CrcOf(data), [3]impl.BytesResult{impl.SealBytes(data), impl.OpenBytes(data), impl.FlipBits(data, at, bits)}
}

// TestSumsShareNothing: data stays as it was, and so does what lies behind it, even where answers are written over; and other data does not reach an answer.
func TestSumsShareNothing(t *testing.T) {
	for _, n := range []int{0, 1, 2, 3, 100, 156, 158, 159, 160, 161} {
		for _, data := range [][]byte{bytesOf(n, 8), impl.SealBytes(bytesOf(max(n-2, 0), 8)).Bytes} {
			inside, whole := guardedBytes(data)
			before := slices.Clone(whole)
			_, answers := sumsAt(inside, 0, 5)
			for i, a := range answers {
				told := slices.Clone(a.Bytes)
				for j := range whole {
					whole[j] ^= 255
				}
				if !slices.Equal(told, a.Bytes) {
					t.Errorf("%d bytes: answer %d changed with its argument", n, i)
				}
				copy(whole, before)
				room := a.Bytes[:cap(a.Bytes)]
				for j := range room {
					room[j] ^= 255
				}
			}
			if !slices.Equal(whole, before) {
				t.Errorf("%d bytes: %v became %v", n, before, whole)
			}
		}
	}
}

// TestSumsHangOnArguments: the same arguments have the same answers, whatever was asked between; nil is an empty list.
func TestSumsHangOnArguments(t *testing.T) {
	for range 2 {
		for _, n := range []int{0, 1, 2, 50, 158, 160, 161} {
			for _, at := range []int64{math.MinInt64, -1, 0, 9, 1279, math.MaxInt64} {
				sum, lists := sumsAt(bytesOf(n, 2), at, 7)
				again, same := sumsAt(bytesOf(n, 2), at, 7)
				wantInt(t, again, sum.Code, sum.Value, "CrcOf again", n)
				for i := range lists {
					wantBytes(t, same[i], lists[i].Code, lists[i].Bytes, "again", n, at, i)
				}
			}
		}
	}
	sum, lists := sumsAt(nil, 0, 1)
	other, same := sumsAt([]byte{}, 0, 1)
	wantInt(t, other, sum.Code, sum.Value, "CrcOf of nothing")
	for i := range lists {
		wantBytes(t, same[i], lists[i].Code, lists[i].Bytes, "of nothing", i)
	}
}
