package path_test

import (
	"bytes"
	"crypto/sha256"
	"fmt"
	"math"
	"strings"
	"testing"

	"beadroll/api"
	"beadroll/path"
)

var wrongPlaces = []int{
	math.MinInt, math.MinInt32, -512, -257, -256, -255, -9, -8, -7, -1,
	256, 257, 263, 264, 511, 512, 1 << 16, math.MaxInt32, math.MaxInt,
}

// By the library, and not by path itself, so that a fault there shows.
func text(k api.Digest) string {
	var b strings.Builder
	for _, x := range k {
		fmt.Fprintf(&b, "%08b", x)
	}
	return b.String()
}

func sharedText(a, b api.Digest) int {
	s, t := text(a), text(b)
	n := 0
	for n < len(s) && s[n] == t[n] {
		n++
	}
	return n
}

// Of bytes whose highest bit is the first one, what is ahead is what is less.
func isLess(a, b api.Digest) bool {
	return bytes.Compare(a[:], b[:]) < 0
}

func filled(b byte) api.Digest {
	var k api.Digest
	for i := range k {
		k[i] = b
	}
	return k
}

func single(i int) api.Digest {
	var k api.Digest
	k[i/8] = []byte{128, 64, 32, 16, 8, 4, 2, 1}[i%8]
	return k
}

func opposite(k api.Digest) api.Digest {
	for i := range k {
		k[i] = ^k[i]
	}
	return k
}

// k up to bit i, that bit the other one, and other's bits behind it.
func parted(k, other api.Digest, i int) api.Digest {
	var out api.Digest
	s, t := text(k), text(other)
	for at := range len(s) {
		one := t[at] == '1'
		if at < i {
			one = s[at] == '1'
		}
		if at == i {
			one = s[at] == '0'
		}
		if one {
			out[at/8] |= single(at)[at/8]
		}
	}
	return out
}

func keys() []api.Digest {
	l := []api.Digest{
		{}, filled(255), filled(0x55), filled(0xaa), filled(0x0f), filled(0xf0), filled(1), filled(128),
		{128}, {192}, {127}, {129}, {5}, {31: 1}, {31: 2}, {31: 128}, {31: 255}, {30: 1, 31: 128}, {15: 1}, {16: 128},
	}
	for i := range 12 {
		l = append(l, sha256.Sum256([]byte{byte(i)}))
	}
	for _, i := range []int{0, 1, 6, 7, 8, 9, 127, 128, 247, 248, 254, 255} {
		l = append(l, single(i), opposite(single(i)), parted(l[len(l)-1], l[len(l)-2], i))
	}
	return l
}

// P4.1: Bit.

func TestBitOfExamples(t *testing.T) {
	for _, c := range []struct {
		i    int
		want uint8
	}{{0, 1}, {1, 0}, {2, 0}, {6, 0}, {7, 1}, {8, 0}, {255, 0}} {
		if n, e := path.Bit(api.Digest{129}, c.i); e != api.OK || n != c.want {
			t.Errorf("bit %d of 129: %d, error %d", c.i, n, e)
		}
	}
	if n, e := path.Bit(api.Digest{129}, 256); e != api.ErrArg || n != 0 {
		t.Errorf("bit 256 of 129: %d, error %d", n, e)
	}
}

func TestBitTellsEachBit(t *testing.T) {
	for _, k := range keys() {
		s := text(k)
		for i := range api.Depth {
			n, e := path.Bit(k, i)
			if e != api.OK || n != s[i]-'0' {
				t.Errorf("bit %d of %x: %d, error %d", i, k, n, e)
			}
		}
	}
}

func TestBitOfSingleOnes(t *testing.T) {
	for at := range api.Depth {
		for i := range api.Depth {
			n, e := path.Bit(single(at), i)
			if e != api.OK || (n == 1) != (i == at) || n > 1 {
				t.Errorf("bit %d, where bit %d alone is 1: %d, error %d", i, at, n, e)
			}
		}
	}
}

func TestBitRefusesWrongPlaces(t *testing.T) {
	for _, k := range keys() {
		for _, i := range wrongPlaces {
			if n, e := path.Bit(k, i); e != api.ErrArg || n != 0 {
				t.Errorf("bit %d of %x: %d, error %d", i, k, n, e)
			}
		}
	}
}

// P4.1: Turn.

func TestTurnOfExamples(t *testing.T) {
	for _, c := range []struct {
		i    int
		want api.Digest
	}{{7, api.Digest{128}}, {0, api.Digest{1}}, {1, api.Digest{193}}, {8, api.Digest{129, 128}}, {255, api.Digest{0: 129, 31: 1}}} {
		if k, e := path.Turn(api.Digest{129}, c.i); e != api.OK || k != c.want {
			t.Errorf("129, turned at %d: %x, error %d", c.i, k, e)
		}
	}
}

func TestTurnTurnsThatBitAlone(t *testing.T) {
	for _, k := range keys() {
		for i := range api.Depth {
			turned, e := path.Turn(k, i)
			if e != api.OK || turned != parted(k, k, i) {
				t.Errorf("%x, turned at %d: %x, error %d", k, i, turned, e)
			}
		}
	}
}

func TestTurnRefusesWrongPlaces(t *testing.T) {
	for _, k := range keys() {
		for _, i := range wrongPlaces {
			if turned, e := path.Turn(k, i); e != api.ErrArg || turned != (api.Digest{}) {
				t.Errorf("%x, turned at %d: %x, error %d", k, i, turned, e)
			}
		}
	}
}

// P4.2.

func checkPair(t *testing.T, a, b api.Digest) {
	t.Helper()
	if n := path.Shared(a, b); n != sharedText(a, b) {
		t.Errorf("%x and %x share %d, not %d", a, b, n, sharedText(a, b))
	}
	if path.Ahead(a, b) != isLess(a, b) {
		t.Errorf("%x ahead of %x: %t", a, b, !isLess(a, b))
	}
}

func TestSharedOfExamples(t *testing.T) {
	for _, c := range []struct {
		a, b api.Digest
		want int
	}{
		{api.Digest{128}, api.Digest{192}, 1},
		{api.Digest{5}, api.Digest{5}, 256},
		{api.Digest{}, api.Digest{}, 256},
		{api.Digest{}, api.Digest{128}, 0},
		{api.Digest{}, api.Digest{1}, 7},
		{api.Digest{}, api.Digest{1: 128}, 8},
		{api.Digest{}, api.Digest{31: 1}, 255},
		{filled(255), filled(255), 256},
	} {
		if n := path.Shared(c.a, c.b); n != c.want {
			t.Errorf("%x and %x share %d, not %d", c.a, c.b, n, c.want)
		}
	}
}

func TestAheadOfExamples(t *testing.T) {
	for _, c := range []struct {
		a, b api.Digest
		want bool
	}{
		{api.Digest{127}, api.Digest{128}, true},
		{api.Digest{128}, api.Digest{127}, false},
		{api.Digest{5}, api.Digest{5}, false},
		{api.Digest{}, api.Digest{31: 1}, true},
		{api.Digest{31: 1}, api.Digest{}, false},
		{api.Digest{0, 255}, api.Digest{1}, true},
		{filled(255), filled(255), false},
	} {
		if path.Ahead(c.a, c.b) != c.want {
			t.Errorf("%x ahead of %x: %t", c.a, c.b, !c.want)
		}
	}
}

func TestPairsOfKeys(t *testing.T) {
	for _, a := range keys() {
		for _, b := range keys() {
			checkPair(t, a, b)
		}
	}
}

// At each place, and whatever stands behind it: the same bits, other ones, noughts and ones.
func TestPairsThatPartAtEachBit(t *testing.T) {
	for _, a := range []api.Digest{{}, filled(255), filled(0xaa), sha256.Sum256(nil)} {
		for i := range api.Depth {
			for _, behind := range []api.Digest{a, opposite(a), {}, filled(255)} {
				b := parted(a, behind, i)
				checkPair(t, a, b)
				checkPair(t, b, a)
				if path.Shared(a, b) != i || path.Shared(b, a) != i {
					t.Errorf("%x and %x share %d bits", a, b, i)
				}
			}
		}
	}
}

func TestPairsOfEachByte(t *testing.T) {
	for x := range 256 {
		for y := range 256 {
			checkPair(t, api.Digest{byte(x)}, api.Digest{byte(y)})
			checkPair(t, api.Digest{31: byte(x)}, api.Digest{31: byte(y)})
		}
	}
}

// P4.3.

func TestOneOfTwoIsAhead(t *testing.T) {
	for _, a := range keys() {
		for _, b := range keys() {
			one, other := path.Ahead(a, b), path.Ahead(b, a)
			if one && other || (one || other) != (a != b) {
				t.Errorf("%x and %x: ahead %t and %t", a, b, one, other)
			}
		}
	}
}

func TestAheadAndSharedOfThree(t *testing.T) {
	for _, a := range keys() {
		for _, b := range keys() {
			for _, c := range keys() {
				if path.Ahead(a, b) && path.Ahead(b, c) && !path.Ahead(a, c) {
					t.Errorf("%x is ahead of %x, that of %x, but not the first of the last", a, b, c)
				}
				if path.Shared(a, b) < min(path.Shared(a, c), path.Shared(b, c)) {
					t.Errorf("%x and %x share less than both with %x", a, b, c)
				}
			}
		}
	}
}

func TestTurnedOnceAndTwice(t *testing.T) {
	for _, k := range keys() {
		for i := range api.Depth {
			once, _ := path.Turn(k, i)
			if n := path.Shared(k, once); n != i {
				t.Errorf("%x, turned at %d, shares %d", k, i, n)
			}
			was, _ := path.Bit(k, i)
			is, _ := path.Bit(once, i)
			if was == is || path.Ahead(k, once) != (was == 0) {
				t.Errorf("%x, turned at %d: bit %d was %d", k, i, is, was)
			}
			if twice, e := path.Turn(once, i); e != api.OK || twice != k {
				t.Errorf("%x, turned twice at %d: %x, error %d", k, i, twice, e)
			}
		}
	}
}
