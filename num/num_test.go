package num_test

import (
	"bytes"
	"encoding/binary"
	"math"
	"slices"
	"testing"

	"beadroll/api"
	"beadroll/num"
)

const maxSize = 8

var wrongSizes = []int{math.MinInt, -256, -8, -1, 0, 9, 10, 16, 64, 256, math.MaxInt}

// By the library, and not by num itself, so that a fault there shows.
func inBytes(n uint64, size int) []byte {
	return binary.BigEndian.AppendUint64(nil, n)[8-size:]
}

func tooGreat(size int) uint64 {
	return 1 << (8 * size)
}

// The least and the greatest numbers of each count of digits are the edges.
func numbers(size int) []uint64 {
	l := []uint64{0, 1, 2, 127, 128, 254, 255}
	for i := 1; i < size; i++ {
		l = append(l, tooGreat(i)-1, tooGreat(i), tooGreat(i)+1, 3*tooGreat(i)+7)
	}
	if size == maxSize {
		return append(l, math.MaxUint64, math.MaxUint64-1, 0x0102030405060708, 1<<63)
	}
	return append(l, tooGreat(size)-1, tooGreat(size)-2)
}

// No byte is like the one beside it, so that one that is left out or turned round shows.
func counted(n int) []byte {
	b := make([]byte, n)
	for i := range b {
		b[i] = byte(i*7 + 3)
	}
	return b
}

func partOf(p []byte) []byte {
	return append([]byte{byte(len(p) >> 8), byte(len(p))}, p...)
}

// Also what an append to b would write to.
func overwrite(b []byte) {
	b = b[:cap(b)]
	for i := range b {
		b[i] ^= 0xff
	}
}

// The bytes behind b's own ones are its caller's: they are neither read nor changed.
func roomy(b []byte) []byte {
	out := append(make([]byte, 0, len(b)+16), b...)
	copy(out[len(b):cap(out)], "behind the bytes")
	return out
}

func wholly(b []byte) []byte {
	return slices.Clone(b[:cap(b)])
}

func wantError(t *testing.T, what string, got, want api.Errno, rest ...bool) {
	t.Helper()
	if got != want {
		t.Errorf("%s: error %d, not %d", what, got, want)
	}
	if slices.Contains(rest, false) {
		t.Errorf("%s: beside an error every other result is zero", what)
	}
}

// P1.1: Put.

func TestPutTellsDigitsHighestFirst(t *testing.T) {
	for size := 1; size <= maxSize; size++ {
		for _, n := range numbers(size) {
			b, e := num.Put(n, size)
			if e != api.OK || !bytes.Equal(b, inBytes(n, size)) {
				t.Errorf("Put %d in %d: %v, error %d", n, size, b, e)
			}
		}
	}
}

func TestPutOfExamples(t *testing.T) {
	b, e := num.Put(258, 2)
	if e != api.OK || !bytes.Equal(b, []byte{1, 2}) {
		t.Errorf("Put 258 in 2: %v, error %d", b, e)
	}
	b, e = num.Put(258, 1)
	wantError(t, "Put 258 in 1", e, api.ErrMany, b == nil)
	b, e = num.Put(258, 9)
	wantError(t, "Put 258 in 9", e, api.ErrArg, b == nil)
}

func TestPutRefusesOneDigitMore(t *testing.T) {
	for size := 1; size < maxSize; size++ {
		for _, n := range []uint64{tooGreat(size), tooGreat(size) + 1, 5 * tooGreat(size), math.MaxUint64, 1 << 63} {
			b, e := num.Put(n, size)
			wantError(t, "Put of a digit more", e, api.ErrMany, b == nil)
		}
	}
}

func TestPutRefusesSizesFirst(t *testing.T) {
	for _, size := range wrongSizes {
		for _, n := range []uint64{0, 1, 256, math.MaxUint64} {
			b, e := num.Put(n, size)
			wantError(t, "Put in a wrong size", e, api.ErrArg, b == nil)
		}
	}
}

// P1.1: Take.

func TestTakeTellsNumberAndRest(t *testing.T) {
	for size := 1; size <= maxSize; size++ {
		for _, n := range numbers(size) {
			for _, behind := range []int{0, 1, 2, 8, 300} {
				b := append(inBytes(n, size), counted(behind)...)
				got, rest, e := num.Take(b, size)
				if e != api.OK || got != n || !bytes.Equal(rest, counted(behind)) {
					t.Errorf("Take %v in %d: %d and %v, error %d", b, size, got, rest, e)
				}
			}
		}
	}
}

func TestTakeOfExamples(t *testing.T) {
	n, rest, e := num.Take([]byte{1, 2, 3}, 2)
	if e != api.OK || n != 258 || !bytes.Equal(rest, []byte{3}) {
		t.Errorf("Take 1 2 3 in 2: %d and %v, error %d", n, rest, e)
	}
	n, rest, e = num.Take([]byte{1}, 2)
	wantError(t, "Take 1 in 2", e, api.ErrShort, n == 0, rest == nil)
}

func TestTakeRefusesTooFewBytes(t *testing.T) {
	for size := 1; size <= maxSize; size++ {
		for few := range size {
			n, rest, e := num.Take(roomy(counted(few)), size)
			wantError(t, "Take of too few bytes", e, api.ErrShort, n == 0, rest == nil)
		}
		n, rest, e := num.Take(nil, size)
		wantError(t, "Take of nil", e, api.ErrShort, n == 0, rest == nil)
	}
}

func TestTakeRefusesSizesFirst(t *testing.T) {
	for _, size := range wrongSizes {
		for _, b := range [][]byte{nil, {}, {1}, counted(9), counted(300)} {
			n, rest, e := num.Take(b, size)
			wantError(t, "Take in a wrong size", e, api.ErrArg, n == 0, rest == nil)
		}
	}
}

// P1.2: PutPart, TakePart, End.

func TestPutPartTellsLengthAndBytes(t *testing.T) {
	for _, n := range []int{0, 1, 2, 255, 256, 257, api.MaxPart - 1, api.MaxPart} {
		b, e := num.PutPart(counted(n))
		if e != api.OK || !bytes.Equal(b, partOf(counted(n))) {
			t.Errorf("PutPart of %d bytes: error %d, or other bytes", n, e)
		}
	}
	b, e := num.PutPart(nil)
	if e != api.OK || !bytes.Equal(b, []byte{0, 0}) {
		t.Errorf("PutPart of nil: %v, error %d", b, e)
	}
}

func TestPutPartRefusesTooManyBytes(t *testing.T) {
	for _, n := range []int{api.MaxPart + 1, 2 * api.MaxPart, 1 << 16, 1<<16 + 1} {
		b, e := num.PutPart(counted(n))
		wantError(t, "PutPart of too many bytes", e, api.ErrMany, b == nil)
	}
}

func TestTakePartTellsPartAndRest(t *testing.T) {
	for _, n := range []int{0, 1, 2, 255, 256, 257, api.MaxPart - 1, api.MaxPart} {
		for _, behind := range []int{0, 1, 2, 8, 5000} {
			p, rest, e := num.TakePart(append(partOf(counted(n)), counted(behind)...))
			if e != api.OK || !bytes.Equal(p, counted(n)) || !bytes.Equal(rest, counted(behind)) {
				t.Errorf("TakePart of %d bytes, and %d behind: %d and %d, error %d", n, behind, len(p), len(rest), e)
			}
		}
	}
}

func TestPartsOfExamples(t *testing.T) {
	b, e := num.PutPart([]byte{7, 8})
	if e != api.OK || !bytes.Equal(b, []byte{0, 2, 7, 8}) {
		t.Errorf("PutPart of 7 8: %v, error %d", b, e)
	}
	p, rest, e := num.TakePart([]byte{0, 1, 9, 5})
	if e != api.OK || !bytes.Equal(p, []byte{9}) || !bytes.Equal(rest, []byte{5}) {
		t.Errorf("TakePart of 0 1 9 5: %v and %v, error %d", p, rest, e)
	}
}

func TestTakePartRefusesWrongBytes(t *testing.T) {
	most := partOf(counted(api.MaxPart))
	for _, c := range []struct {
		what string
		b    []byte
		want api.Errno
	}{
		{"nil", nil, api.ErrShort},
		{"nothing", []byte{}, api.ErrShort},
		{"0", []byte{0}, api.ErrShort},
		{"255 alone: the number is not there in full", []byte{255}, api.ErrShort},
		{"0 1", []byte{0, 1}, api.ErrShort},
		{"0 2 9", []byte{0, 2, 9}, api.ErrShort},
		{"4096 of 4095", most[:len(most)-1], api.ErrShort},
		{"4096 of none", most[:2], api.ErrShort},
		{"16 1: too great ahead of too short", []byte{16, 1}, api.ErrMany},
		{"255 255", []byte{255, 255}, api.ErrMany},
		{"4097 that are there", partOf(counted(api.MaxPart + 1)), api.ErrMany},
		{"4097 that are not all there", partOf(counted(api.MaxPart + 1))[:api.MaxPart], api.ErrMany},
	} {
		p, rest, e := num.TakePart(roomy(c.b))
		wantError(t, "TakePart of "+c.what, e, c.want, p == nil, rest == nil)
	}
}

func TestEndRefusesBytesThatAreLeft(t *testing.T) {
	for _, b := range [][]byte{nil, {}, roomy(nil)} {
		if e := num.End(b); e != api.OK {
			t.Errorf("End of nothing: error %d", e)
		}
	}
	for _, b := range [][]byte{{0}, {1}, counted(2), counted(5000)} {
		if e := num.End(b); e != api.ErrLong {
			t.Errorf("End of %d bytes: error %d", len(b), e)
		}
	}
}

// P1.3.

func TestWhatIsHandedInStays(t *testing.T) {
	for _, b := range [][]byte{{}, {0}, {0, 1, 9, 5}, {0, 2, 9}, {16, 1, 3}, partOf(counted(300)), counted(4097)} {
		in := roomy(b)
		before := wholly(in)
		for size := -1; size <= maxSize+1; size++ {
			num.Take(in, size)
		}
		num.PutPart(in)
		num.TakePart(in)
		num.End(in)
		if !bytes.Equal(wholly(in), before) {
			t.Errorf("%d bytes that were handed in are changed", len(b))
		}
	}
}

// Each list is overwritten and put right again, so that the next pair begins afresh.
func sharesNone(t *testing.T, what string, lists ...[]byte) {
	t.Helper()
	for i := range lists {
		for j := range lists {
			before := wholly(lists[j])
			overwrite(lists[i])
			if i != j && !bytes.Equal(wholly(lists[j]), before) {
				t.Errorf("%s: list %d shares memory with list %d", what, i, j)
			}
			overwrite(lists[i])
		}
	}
}

func TestWhatIsAnsweredIsNewMemory(t *testing.T) {
	a, _ := num.Put(258, 2)
	b, _ := num.Put(258, 2)
	sharesNone(t, "Put", a, b)

	for _, behind := range []int{0, 1, 300} {
		in := roomy(counted(maxSize + behind))
		for size := 1; size <= maxSize; size++ {
			_, x, _ := num.Take(in, size)
			_, y, _ := num.Take(in, size)
			sharesNone(t, "Take", in, x, y)
		}
	}

	for _, n := range []int{0, 1, 300, api.MaxPart} {
		in := roomy(counted(n))
		a, _ := num.PutPart(in)
		b, _ := num.PutPart(in)
		sharesNone(t, "PutPart", in, a, b)

		in = roomy(append(partOf(counted(n)), counted(n)...))
		p, rest, _ := num.TakePart(in)
		q, left, _ := num.TakePart(in)
		sharesNone(t, "TakePart", in, p, rest, q, left)
	}
}

// P1.4.

func TestWhatIsPutIsTaken(t *testing.T) {
	for size := 1; size <= maxSize; size++ {
		for _, n := range numbers(size) {
			for _, behind := range []int{0, 1, 20} {
				b, _ := num.Put(n, size)
				got, rest, e := num.Take(append(b, counted(behind)...), size)
				if e != api.OK || got != n || !bytes.Equal(rest, counted(behind)) {
					t.Errorf("%d in %d, put and taken: %d and %v, error %d", n, size, got, rest, e)
				}
			}
		}
	}
	for _, n := range []int{0, 1, 255, 256, api.MaxPart} {
		for _, behind := range []int{0, 1, 20} {
			b, _ := num.PutPart(counted(n))
			p, rest, e := num.TakePart(append(b, counted(behind)...))
			if e != api.OK || !bytes.Equal(p, counted(n)) || !bytes.Equal(rest, counted(behind)) {
				t.Errorf("a part of %d bytes, put and taken: %d and %d, error %d", n, len(p), len(rest), e)
			}
		}
	}
}

func TestWhatIsTakenIsPutAgain(t *testing.T) {
	for high := range 256 {
		for low := range 256 {
			takenNumberIsPut(t, append([]byte{byte(high), byte(low)}, counted(17)...))
		}
	}
	behind := counted(api.MaxPart + 3)
	for _, n := range []int{0, 1, 2, 17, 255, 256, 257, api.MaxPart - 1, api.MaxPart} {
		for _, left := range []int{0, 1, 3} {
			takenPartIsPut(t, append([]byte{byte(n >> 8), byte(n)}, behind[:n+left]...))
		}
	}
}

func takenNumberIsPut(t *testing.T, in []byte) {
	t.Helper()
	for size := 1; size <= maxSize; size++ {
		n, rest, e := num.Take(in, size)
		if e != api.OK {
			t.Fatalf("Take %v in %d: error %d", in, size, e)
		}
		b, e := num.Put(n, size)
		if e != api.OK || !bytes.Equal(append(b, rest...), in) {
			t.Fatalf("Take %v in %d, put again: %v, error %d", in, size, b, e)
		}
	}
}

func takenPartIsPut(t *testing.T, in []byte) {
	t.Helper()
	p, rest, e := num.TakePart(in)
	if e != api.OK {
		t.Fatalf("TakePart of %v..: error %d", in[:2], e)
	}
	b, e := num.PutPart(p)
	if e != api.OK || !bytes.Equal(append(b, rest...), in) {
		t.Fatalf("TakePart of %v.., put again: error %d, or other bytes", in[:2], e)
	}
}
