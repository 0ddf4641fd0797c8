package sha_test

import (
	"bytes"
	"crypto/sha256"
	"encoding/hex"
	"strings"
	"testing"

	"beadroll/api"
	"beadroll/sha"
)

const twoBlocks = "abcdbcdecdefdefgefghfghighijhijkijkljklmklmnlmnomnopnopq"

// Known from FIPS 180-4's examples, and not worked out here.
var known = []struct {
	text   string
	digest string
}{
	{"", "e3b0c44298fc1c149afbf4c8996fb92427ae41e4649b934ca495991b7852b855"},
	{"abc", "ba7816bf8f01cfea414140de5dae2223b00361a396177a9cb410ff61f20015ad"},
	{twoBlocks, "248d6a61d20638b8e5c026930c3e6039a33ce45964ff2167f6ecedd419db06c1"},
	{
		"abcdefghbcdefghicdefghijdefghijkefghijklfghijklmghijklmnhijklmnoijklmnopjklmnopqklmnopqrlmnopqrsmnopqrstnopqrstu",
		"cf5b16a778af8380036ce59e7b0492370b249b11e8f07a51afac45037afee9d1",
	},
	{strings.Repeat("a", 1000000), "cdc76e5c9914fb9281a1c7e284d73e67f1809a48a497200e046d39ccc7112cd0"},
}

// Where the count of bits no longer has room in a block, and where a block is full.
var edges = []int{
	0, 1, 2, 3, 54, 55, 56, 57, 62, 63, 64, 65, 66, 118, 119, 120, 121, 127, 128, 129,
	183, 184, 191, 192, 193, 255, 256, 257, 1023, 1024, 1025, 4096, 65535, 65536, 100003,
}

// No byte is like the one beside it, and no block like the one behind it.
func counted(n int) []byte {
	b := make([]byte, n)
	for i := range b {
		b[i] = byte(i*7 + i>>8*5 + 3)
	}
	return b
}

// By the library, and not by sha itself, so that a fault there shows.
func expected(parts ...[]byte) api.Digest {
	return sha256.Sum256(bytes.Join(parts, nil))
}

func filled(b byte) api.Digest {
	var d api.Digest
	for i := range d {
		d[i] = b
	}
	return d
}

func checkOf(t *testing.T, what string, want api.Digest, parts ...[]byte) {
	t.Helper()
	if d := sha.Of(parts...); d != want {
		t.Errorf("Of %s: %x, want %x", what, d, want)
	}
}

// P2.1: Of.

func TestOfKnown(t *testing.T) {
	for _, c := range known {
		if got := sha.Hex(sha.Of([]byte(c.text))); got != c.digest {
			t.Errorf("Of %.20q, %d bytes: %s, want %s", c.text, len(c.text), got, c.digest)
		}
	}
}

func TestOfNothing(t *testing.T) {
	want := expected()
	checkOf(t, "no parts", want)
	checkOf(t, "no parts, as nil", want, [][]byte(nil)...)
	checkOf(t, "no parts, as an empty list", want, [][]byte{}...)
	checkOf(t, "a nil part", want, nil)
	checkOf(t, "an empty part", want, []byte{})
	checkOf(t, "nil and empty parts", want, nil, []byte{}, nil, []byte{}, []byte{})
}

func TestOfEachCountOfBytes(t *testing.T) {
	for n := range 300 {
		checkOf(t, "counted bytes", expected(counted(n)), counted(n))
	}
	for _, n := range edges {
		checkOf(t, "counted bytes", expected(counted(n)), counted(n))
		checkOf(t, "noughts", expected(make([]byte, n)), make([]byte, n))
		ones := bytes.Repeat([]byte{0xff}, n)
		checkOf(t, "ones", expected(ones), ones)
		marks := bytes.Repeat([]byte{0x80}, n)
		checkOf(t, "padding's own mark", expected(marks), marks)
	}
}

// The count of bits reaches its fourth byte.
func TestOfManyBlocks(t *testing.T) {
	b := counted(3<<20 + 17)
	checkOf(t, "many blocks", expected(b), b)
	checkOf(t, "many blocks in parts", expected(b), b[:1<<20+1], b[1<<20+1:2<<20], b[2<<20:])
}

// The count of bits reaches its fifth byte: it doesn't go in 32 bits.
func TestOfMoreBitsThanAWordCounts(t *testing.T) {
	part := counted(1 << 20)
	parts := make([][]byte, 513)
	h := sha256.New()
	for i := range parts {
		parts[i] = part
		h.Write(part)
	}
	checkOf(t, "513 MiB", api.Digest(h.Sum(nil)), parts...)
}

func TestOfEachBit(t *testing.T) {
	b := counted(64)
	seen := map[api.Digest]bool{sha.Of(b): true}
	for i := range b {
		for bit := range 8 {
			turned := bytes.Clone(b)
			turned[i] ^= 1 << bit
			d := sha.Of(turned)
			if d != expected(turned) || seen[d] {
				t.Errorf("byte %d, bit %d: %x", i, bit, d)
			}
			seen[d] = true
		}
	}
}

// P2.1: Hex.

func TestHex(t *testing.T) {
	var steps api.Digest
	for i := range steps {
		steps[i] = byte(i*16 + 15 - i%16)
	}
	first, last := api.Digest{0: 0x1f}, api.Digest{31: 0xf1}
	for _, c := range []struct {
		d    api.Digest
		want string
	}{
		{api.Digest{}, strings.Repeat("0", 64)},
		{filled(0xff), strings.Repeat("f", 64)},
		{filled(0x09), strings.Repeat("09", 32)},
		{filled(0xa0), strings.Repeat("a0", 32)},
		{first, "1f" + strings.Repeat("0", 62)},
		{last, strings.Repeat("0", 62) + "f1"},
		{steps, hex.EncodeToString(steps[:])},
	} {
		if got := sha.Hex(c.d); got != c.want {
			t.Errorf("Hex of %x: %s, want %s", c.d, got, c.want)
		}
	}
}

func TestHexOfEachByte(t *testing.T) {
	for b := range 256 {
		d := filled(byte(b))
		if got := sha.Hex(d); got != hex.EncodeToString(d[:]) {
			t.Errorf("Hex of %x: %s", d, got)
		}
	}
}

// P2.1: Read.

func TestRead(t *testing.T) {
	for _, c := range []struct {
		s    string
		want api.Digest
	}{
		{strings.Repeat("0", 64), api.Digest{}},
		{strings.Repeat("f", 64), filled(0xff)},
		{strings.Repeat("09", 32), filled(0x09)},
		{strings.Repeat("af", 32), filled(0xaf)},
		{"12" + strings.Repeat("0", 62), api.Digest{0: 0x12}},
		{strings.Repeat("0", 62) + "ed", api.Digest{31: 0xed}},
		{known[1].digest, expected([]byte("abc"))},
	} {
		d, e := sha.Read(c.s)
		if e != api.OK || d != c.want {
			t.Errorf("Read of %s: %x, %d, want %x", c.s, d, e, c.want)
		}
	}
}

func checkRefused(t *testing.T, s string) {
	t.Helper()
	d, e := sha.Read(s)
	if e != api.ErrArg || d != (api.Digest{}) {
		t.Errorf("Read of %q: %x, %d, want noughts, %d", s, d, e, api.ErrArg)
	}
}

func TestReadOfAnotherCountOfDigits(t *testing.T) {
	text := known[1].digest
	checkRefused(t, "")
	for n := range 130 {
		if n != 64 {
			checkRefused(t, (text + text + text)[:n])
		}
	}
	checkRefused(t, strings.Repeat("a", 1<<16))
	checkRefused(t, " "+text)
	checkRefused(t, text+"\n")
	checkRefused(t, "0x"+text)
	checkRefused(t, "0x"+text[2:])
}

func TestReadOfWhatIsNoDigit(t *testing.T) {
	text := known[0].digest
	for b := range 256 {
		if strings.IndexByte("0123456789abcdef", byte(b)) >= 0 {
			continue
		}
		for place := range text {
			wrong := []byte(text)
			wrong[place] = byte(b)
			checkRefused(t, string(wrong))
		}
	}
}

func TestReadOfGreatLetters(t *testing.T) {
	checkRefused(t, strings.ToUpper(known[1].digest))
	checkRefused(t, strings.Repeat("F", 64))
	checkRefused(t, strings.Repeat("a", 63)+"A")
}

// 64 bytes, but fewer digits; and 64 runes, that are more bytes.
func TestReadOfOtherRunes(t *testing.T) {
	checkRefused(t, strings.Repeat("é", 32))
	checkRefused(t, strings.Repeat("0", 62)+"é")
	checkRefused(t, strings.Repeat("０", 64))
	checkRefused(t, strings.Repeat("\x00", 64))
}

// P2.2.

// The bytes behind a part's own ones are its caller's: neither read nor changed.
func TestOfOnlyReads(t *testing.T) {
	for _, n := range edges {
		whole := counted(n + 200)
		parts := [][]byte{whole[:n/2], whole[n/2 : n], nil, whole[n:n]}
		checkOf(t, "a piece", expected(counted(n)), parts...)
		if !bytes.Equal(whole, counted(n+200)) {
			t.Errorf("Of %d bytes: what was handed in, or what is behind it, is changed", n)
		}
		if len(parts[0]) != n/2 || len(parts[1]) != n-n/2 || parts[2] != nil || len(parts[3]) != 0 {
			t.Errorf("Of %d bytes: the list of parts is changed", n)
		}
	}
}

func TestSamePartTwice(t *testing.T) {
	p := counted(70)
	checkOf(t, "a part twice", expected(p, p), p, p)
	checkOf(t, "pieces that overlap", expected(p[:50], p[20:]), p[:50], p[20:])
}

func TestNothingIsKept(t *testing.T) {
	before := sha.Of([]byte("abc"))
	sha.Of(counted(1000))
	sha.Read(strings.Repeat("g", 64))
	sha.Hex(filled(7))
	if sha.Of([]byte("abc")) != before {
		t.Error("a call's answer hangs on the calls ahead of it")
	}
}

func TestHexOnlyReads(t *testing.T) {
	d := filled(0x5a)
	sha.Hex(d)
	if d != filled(0x5a) {
		t.Error("Hex changed its digest")
	}
}

// P2.3.

func TestCutAtEachPlace(t *testing.T) {
	b := counted(200)
	for _, n := range []int{3, 55, 56, 63, 64, 65, 119, 120, 128, 200} {
		want := expected(b[:n])
		for i := range n + 1 {
			checkOf(t, "two parts", want, b[:i], b[i:n])
			checkOf(t, "two parts about an empty one", want, b[:i], nil, b[i:n])
		}
	}
}

func TestCutAtTwoPlaces(t *testing.T) {
	b := counted(130)
	want := expected(b)
	for i := range len(b) + 1 {
		for j := i; j <= len(b); j++ {
			checkOf(t, "three parts", want, b[:i], b[i:j], b[j:])
		}
	}
}

func TestCutInEqualParts(t *testing.T) {
	b := counted(1000)
	want := expected(b)
	for size := 1; size <= len(b); size++ {
		var parts [][]byte
		for rest := b; len(rest) > 0; {
			n := min(size, len(rest))
			parts = append(parts, rest[:n])
			rest = rest[n:]
		}
		checkOf(t, "equal parts", want, parts...)
	}
}

func TestTextAndBack(t *testing.T) {
	digests := []api.Digest{{}, filled(0xff), filled(0x80), filled(1)}
	for i := range 500 {
		digests = append(digests, sha.Of(counted(i)))
	}
	for b := range 256 {
		digests = append(digests, filled(byte(b)), api.Digest{0: byte(b)}, api.Digest{31: byte(b)})
	}
	for _, d := range digests {
		s := sha.Hex(d)
		back, e := sha.Read(s)
		if e != api.OK || back != d || sha.Hex(back) != s {
			t.Errorf("%x: its text %s is read as %x, %d", d, s, back, e)
		}
	}
}
