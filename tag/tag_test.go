package tag_test

import (
	"bytes"
	"crypto/sha256"
	"encoding/binary"
	"fmt"
	"math"
	"slices"
	"testing"

	"beadroll/api"
	"beadroll/tag"
)

const countSize = 4

var kinds = []uint8{0, 1, 7, 127, 128, 254, 255}

// How many bytes parts have: each digit of the count changes here, and the limit stands here.
var sizes = []int{0, 1, 2, 3, 4, 5, 254, 255, 256, 257, 1000, api.MaxPart - 1, api.MaxPart}

var greaterSizes = []int{api.MaxPart + 1, api.MaxPart + 2, 2 * api.MaxPart, 65535, 65536, 65537, 1<<24 - 1, 1 << 24, 1<<24 + 1}

// No byte is like the one beside it, so that one that is left out or turned round shows.
func counted(n int) []byte {
	b := make([]byte, n)
	for i := range b {
		b[i] = byte(i*7 + i>>8*5 + 3)
	}
	return b
}

func texts(list ...string) [][]byte {
	var parts [][]byte
	for _, s := range list {
		parts = append(parts, []byte(s))
	}
	return parts
}

// Lists of parts that all may be read again: none has more than MaxPart bytes.
func lists() [][][]byte {
	all := [][][]byte{
		nil, {}, {nil}, {{}}, {nil, {}}, {{}, nil, nil, {}},
		{{0}}, {{0}, {0}}, {{0, 0, 0, 0}}, {{0, 0, 0, 0}, nil}, {nil, {0, 0, 0, 0}}, {{0, 0, 0, 1}, {7}},
		{{255, 255, 255, 255}}, {{0, 0, 16, 1}},
		texts("ab", ""), texts("", "ab"), texts("a", "b"), texts("b", "a"), texts("ab"), texts("a", "b", ""),
		slices.Repeat([][]byte{nil}, 1000), slices.Repeat(texts("x"), 1000),
		slices.Repeat([][]byte{counted(api.MaxPart)}, 20),
	}
	for _, n := range sizes {
		all = append(all, [][]byte{counted(n)}, [][]byte{counted(n), nil}, [][]byte{nil, counted(n)},
			[][]byte{counted(n), counted(n)}, [][]byte{counted(n), {1}, counted(n / 2)})
	}
	var each [][]byte
	for n := range 300 {
		each = append(each, counted(n))
	}
	return append(all, each)
}

func greaterLists() [][][]byte {
	var all [][][]byte
	for _, n := range greaterSizes {
		all = append(all, [][]byte{counted(n)}, [][]byte{{1}, counted(n), {2}})
	}
	return all
}

func countOf(n uint32) []byte {
	return binary.BigEndian.AppendUint32(nil, n)
}

// By the library, and not by tag itself or what it stands on, so that a fault there shows.
func digested(kind uint8, parts [][]byte) []byte {
	b := []byte{kind}
	for _, p := range parts {
		b = append(append(b, countOf(uint32(len(p)))...), p...)
	}
	return b
}

func joined(list ...[]byte) []byte {
	return slices.Concat(list...)
}

// The bytes behind b's own ones are its caller's: they are neither read nor changed.
func roomy(b []byte) []byte {
	out := append(make([]byte, 0, len(b)+16), b...)
	copy(out[len(b):cap(out)], "behind the bytes")
	return out
}

func wholly(b []byte) []byte {
	return slices.Clone(b[:cap(b)])
}

func copied(lists [][]byte) [][]byte {
	var out [][]byte
	for _, b := range lists {
		out = append(out, wholly(b))
	}
	return out
}

// Also what an append to b would write to.
func overwrite(b []byte) {
	b = b[:cap(b)]
	for i := range b {
		b[i] ^= 0xff
	}
}

// Lists that are empty, and lists that are nil, are the same.
func sameParts(a, b [][]byte) bool {
	return slices.EqualFunc(a, b, bytes.Equal)
}

func short(b []byte) string {
	return fmt.Sprintf("%d bytes %v", len(b), b[:min(len(b), 12)])
}

func checkRead(t *testing.T, b []byte, kind uint8, parts [][]byte) {
	t.Helper()
	gotKind, got, e := tag.Parts(b)
	if e != api.OK || gotKind != kind || !sameParts(got, parts) {
		t.Errorf("Parts of %s: kind %d, %d parts, error %d, want kind %d, %d parts",
			short(b), gotKind, len(got), e, kind, len(parts))
	}
}

func checkRefused(t *testing.T, b []byte, want api.Errno) {
	t.Helper()
	kind, parts, e := tag.Parts(roomy(b))
	if e != want {
		t.Errorf("Parts of %s: error %d, want %d", short(b), e, want)
	}
	if kind != 0 || len(parts) != 0 {
		t.Errorf("Parts of %s: kind %d and %d parts beside an error", short(b), kind, len(parts))
	}
}

// P3.1: Bytes.

func TestBytesOfExample(t *testing.T) {
	want := []byte{7, 0, 0, 0, 2, 97, 98, 0, 0, 0, 0}
	if got := tag.Bytes(7, []byte("ab"), []byte("")); !bytes.Equal(got, want) {
		t.Errorf("Bytes of 7, ab and nothing: %v", got)
	}
	if got := tag.Bytes(7, []byte("ab"), nil); !bytes.Equal(got, want) {
		t.Errorf("Bytes of 7, ab and nil: %v", got)
	}
}

func TestBytesOfNoParts(t *testing.T) {
	for kind := range 256 {
		want := []byte{byte(kind)}
		for _, got := range [][]byte{
			tag.Bytes(uint8(kind)), tag.Bytes(uint8(kind), [][]byte{}...), tag.Bytes(uint8(kind), [][]byte(nil)...),
		} {
			if !bytes.Equal(got, want) {
				t.Errorf("Bytes of %d alone: %v", kind, got)
			}
		}
	}
}

func checkDigested(t *testing.T, kind uint8, parts [][]byte) {
	t.Helper()
	want := digested(kind, parts)
	if got := tag.Bytes(kind, parts...); !bytes.Equal(got, want) {
		t.Errorf("Bytes of %d and %d parts: %s, want %s", kind, len(parts), short(got), short(want))
	}
}

func TestBytes(t *testing.T) {
	for _, parts := range lists() {
		for _, kind := range kinds {
			checkDigested(t, kind, parts)
		}
	}
}

// The most bytes that a part may be read with are no limit of what is digested.
func TestBytesOfGreaterParts(t *testing.T) {
	for _, parts := range greaterLists() {
		checkDigested(t, 7, parts)
	}
}

func TestBytesOfKinds(t *testing.T) {
	for _, kind := range kinds {
		got := tag.Bytes(kind, []byte{kind}, []byte{9, 8})
		if !bytes.Equal(got, []byte{kind, 0, 0, 0, 1, kind, 0, 0, 0, 2, 9, 8}) {
			t.Errorf("Bytes of %d and two parts: %v", kind, got)
		}
	}
}

// P3.1: Of, None.

func checkOf(t *testing.T, kind uint8, parts [][]byte) {
	t.Helper()
	want := api.Digest(sha256.Sum256(digested(kind, parts)))
	if got := tag.Of(kind, parts...); got != want {
		t.Errorf("Of %d and %d parts: %x, want %x", kind, len(parts), got, want)
	}
	if got := sha256.Sum256(tag.Bytes(kind, parts...)); got != want {
		t.Errorf("Bytes of %d and %d parts have another digest than Of", kind, len(parts))
	}
}

func TestOf(t *testing.T) {
	for _, parts := range lists() {
		for _, kind := range []uint8{0, 7, 255} {
			checkOf(t, kind, parts)
		}
	}
}

func TestOfGreaterParts(t *testing.T) {
	for _, parts := range greaterLists() {
		checkOf(t, 7, parts)
	}
}

func TestOfEachKind(t *testing.T) {
	for kind := range 256 {
		if got := tag.Of(uint8(kind)); got != sha256.Sum256([]byte{byte(kind)}) {
			t.Errorf("Of %d alone: %x", kind, got)
		}
		if got := tag.Of(uint8(kind), []byte("ab")); got != sha256.Sum256([]byte{byte(kind), 0, 0, 0, 2, 'a', 'b'}) {
			t.Errorf("Of %d and ab: %x", kind, got)
		}
	}
}

func TestNone(t *testing.T) {
	// Known of SHA-256 of one nought byte, and not worked out here.
	const known = "6e340b9cffb37a989ca544e6bb780a2c78901d3fb33738768511a30617afa01d"
	d := tag.None()
	if got := fmt.Sprintf("%x", d[:]); got != known {
		t.Errorf("None: %s, want %s", got, known)
	}
	if d != tag.Of(0) || d != sha256.Sum256(tag.Bytes(0)) {
		t.Error("None is not Of 0, without parts")
	}
	if d == tag.Of(0, nil) || d == tag.Of(1) || d == (api.Digest{}) {
		t.Error("None is that of one part, of another kind, or of no digest")
	}
}

// P3.2.

func TestPartsOfExamples(t *testing.T) {
	checkRead(t, []byte{7, 0, 0, 0, 2, 97, 98, 0, 0, 0, 0}, 7, texts("ab", ""))
	checkRead(t, []byte{7}, 7, nil)
	checkRefused(t, nil, api.ErrShort)
	checkRefused(t, []byte{7, 0}, api.ErrShort)
	checkRefused(t, []byte{7, 0, 0, 0, 1}, api.ErrShort)
	checkRefused(t, []byte{7, 0, 0, 16, 1}, api.ErrMany)
}

func TestParts(t *testing.T) {
	for _, parts := range lists() {
		for _, kind := range kinds {
			checkRead(t, digested(kind, parts), kind, parts)
			checkRead(t, roomy(digested(kind, parts)), kind, parts)
		}
	}
}

func TestPartsOfKindsAlone(t *testing.T) {
	for kind := range 256 {
		checkRead(t, []byte{byte(kind)}, uint8(kind), nil)
	}
}

// One that copied what is left for each part wouldn't end within the test's time.
func TestPartsOfManyParts(t *testing.T) {
	const many = 1 << 20
	checkRead(t, make([]byte, 1+many*countSize), 0, make([][]byte, many))
}

func TestPartsRefusesNoBytes(t *testing.T) {
	checkRefused(t, nil, api.ErrShort)
	checkRefused(t, []byte{}, api.ErrShort)
	checkRefused(t, counted(10)[3:3], api.ErrShort)
}

// Whatever the count's first bytes are: what is there of it tells nothing.
func TestPartsRefusesACountThatIsCut(t *testing.T) {
	for _, ahead := range lists() {
		for _, n := range []uint32{0, 1, 255, api.MaxPart, api.MaxPart + 1, math.MaxUint32} {
			for there := 1; there < countSize; there++ {
				checkRefused(t, append(digested(7, ahead), countOf(n)[:there]...), api.ErrShort)
			}
		}
	}
}

func TestPartsRefusesBytesThatAreCut(t *testing.T) {
	for _, ahead := range lists() {
		for _, n := range sizes[1:] {
			b := append(digested(7, ahead), countOf(uint32(n))...)
			checkRefused(t, b, api.ErrShort)
			checkRefused(t, joined(b, counted(n-1)), api.ErrShort)
			checkRefused(t, joined(b, counted(n/2)), api.ErrShort)
		}
	}
}

// Each place at which two parts are cut is no text, but for those behind a kind or a part.
func TestPartsOfEachCut(t *testing.T) {
	b := digested(9, texts("abc", "", "de"))
	whole := map[int][][]byte{1: nil, 8: texts("abc"), 12: texts("abc", ""), 18: texts("abc", "", "de")}
	for n := range len(b) + 1 {
		if parts, ok := whole[n]; ok {
			checkRead(t, b[:n], 9, parts)
		} else {
			checkRefused(t, b[:n], api.ErrShort)
		}
	}
}

// Too many is told at the count: ahead of bytes that are wanting, and of what is wrong behind them.
func TestPartsRefusesTooManyBytes(t *testing.T) {
	for _, ahead := range lists() {
		for _, n := range []uint32{
			api.MaxPart + 1, api.MaxPart + 255, 2 * api.MaxPart, 65535, 65536, 1 << 16 * 17, 1 << 24, math.MaxInt32,
			1 << 31, 1<<31 + 1, math.MaxUint32 - api.MaxPart, math.MaxUint32 - 4, math.MaxUint32,
		} {
			b := append(digested(0, ahead), countOf(n)...)
			checkRefused(t, b, api.ErrMany)
			checkRefused(t, append(b, 1), api.ErrMany)
		}
	}
}

func TestPartsRefusesTooManyBytesThatAreThere(t *testing.T) {
	for _, n := range greaterSizes {
		b := digested(7, [][]byte{counted(n)})
		checkRefused(t, b, api.ErrMany)
		checkRefused(t, b[:len(b)-1], api.ErrMany)
		checkRefused(t, append(b, 0), api.ErrMany)
		checkRefused(t, digested(7, [][]byte{{1, 2}, counted(n), {3}}), api.ErrMany)
	}
	most := countOf(math.MaxUint32)
	checkRefused(t, joined([]byte{7}, most, counted(100000)), api.ErrMany)
}

func TestPartsTellsTheFirstError(t *testing.T) {
	tooMany := countOf(api.MaxPart + 1)
	right := digested(7, texts("ab"))
	// The count that follows is one of too many bytes; the count ahead of it takes it for bytes.
	checkRefused(t, joined(right, countOf(5), tooMany), api.ErrShort)
	checkRead(t, joined(right, countOf(4), tooMany), 7, [][]byte{[]byte("ab"), tooMany})
	checkRefused(t, joined(right, tooMany, []byte{0}), api.ErrMany)
	checkRefused(t, joined(right, tooMany, counted(api.MaxPart+1), []byte{0}), api.ErrMany)
	checkRefused(t, joined(right, countOf(1), []byte{1}, tooMany), api.ErrMany)
	checkRefused(t, joined(right, countOf(1), []byte{1}, tooMany[:3]), api.ErrShort)
	checkRefused(t, joined(right, countOf(1), []byte{1}, countOf(2), []byte{1}), api.ErrShort)
}

// Read on by the words of the promise, part by part from the front.
func readOn(b []byte) ([][]byte, api.Errno) {
	if len(b) == 0 {
		return nil, api.OK
	}
	if len(b) < countSize {
		return nil, api.ErrShort
	}
	n := binary.BigEndian.Uint32(b)
	if n > api.MaxPart {
		return nil, api.ErrMany
	}
	behind := b[countSize:]
	if len(behind) < int(n) {
		return nil, api.ErrShort
	}
	rest, e := readOn(behind[n:])
	if e != api.OK {
		return nil, e
	}
	return append([][]byte{behind[:n]}, rest...), api.OK
}

// P1, too: whatever the bytes, Parts ends, and doesn't panic.
func TestPartsOfAllShortBytes(t *testing.T) {
	digits := []byte{0, 1, 2, 16, 255}
	all := [][]byte{nil}
	for i := 0; len(all[i]) < 7; i++ {
		for _, d := range digits {
			all = append(all, joined(all[i], []byte{d}))
		}
	}
	for _, b := range all {
		checkRefusedOrRead(t, joined([]byte{7}, b))
		checkRefusedOrRead(t, joined([]byte{7, 0, 0, 0}, b))
	}
}

func checkRefusedOrRead(t *testing.T, b []byte) {
	t.Helper()
	parts, e := readOn(b[1:])
	if e != api.OK {
		checkRefused(t, b, e)
		return
	}
	checkRead(t, b, b[0], parts)
}

// P3.3.

func TestWhatIsHandedInStays(t *testing.T) {
	for _, parts := range lists() {
		var in [][]byte
		for _, p := range parts {
			in = append(in, roomy(p))
		}
		// A list that has room behind its end, with a part there that is nobody's.
		in = append(in, roomy([]byte("beyond")))
		before := copied(in)
		handed := in[:len(parts)]
		tag.Bytes(7, handed...)
		tag.Of(7, handed...)
		if !sameParts(copied(in), before) {
			t.Errorf("%d parts that were handed in are changed", len(parts))
		}
	}
}

func TestWhatIsReadStays(t *testing.T) {
	wrong := [][]byte{nil, {7, 0}, {7, 0, 0, 0, 1}, {7, 0, 0, 16, 1}, {7, 0, 0, 0, 1, 5, 255, 255, 255, 255}}
	for _, parts := range lists() {
		wrong = append(wrong, digested(7, parts))
	}
	for _, b := range wrong {
		in := roomy(b)
		before := wholly(in)
		tag.Parts(in)
		if !bytes.Equal(wholly(in), before) {
			t.Errorf("what was read is changed: %s", short(b))
		}
	}
}

// Nothing that is overwritten, of what was handed in or answered, shows in another list.
func sharesNone(t *testing.T, what string, lists ...[]byte) {
	t.Helper()
	before := copied(lists)
	for i := range lists {
		overwrite(lists[i])
		before[i] = wholly(lists[i])
		if !sameParts(copied(lists), before) {
			t.Fatalf("%s: list %d shares memory with another one", what, i)
		}
	}
}

func TestBytesAreNewMemory(t *testing.T) {
	sharesNone(t, "Bytes of a kind", tag.Bytes(7), tag.Bytes(7))
	for _, n := range []int{0, 1, 2, 300, api.MaxPart} {
		p, q := roomy(counted(n)), roomy(counted(n))
		sharesNone(t, "Bytes", p, q, tag.Bytes(7, p), tag.Bytes(7, p), tag.Bytes(7, p, q), tag.Bytes(7, q, p))
	}
}

func TestPartsAreNewMemory(t *testing.T) {
	for _, parts := range [][][]byte{{}, {{}}, texts("a"), texts("ab", "", "c"), {counted(300), counted(301), {1}}} {
		in := roomy(digested(7, parts))
		_, first, _ := tag.Parts(in)
		_, second, _ := tag.Parts(in)
		sharesNone(t, "Parts", slices.Concat([][]byte{in}, first, second)...)
	}
}

func TestListsOfPartsAreNewMemory(t *testing.T) {
	in := digested(7, texts("ab", "c"))
	_, first, _ := tag.Parts(in)
	_, second, _ := tag.Parts(in)
	first[0], first[1] = nil, nil
	if !sameParts(second, texts("ab", "c")) {
		t.Error("two answers have one list")
	}
}

func TestNothingIsKept(t *testing.T) {
	text, digest, none := tag.Bytes(7, []byte("ab")), tag.Of(7, []byte("ab")), tag.None()
	overwrite(tag.Bytes(7, []byte("ab")))
	overwrite(tag.Bytes(0))
	tag.Of(8, counted(1000))
	tag.Parts([]byte{7, 255, 255, 255, 255})
	if !bytes.Equal(tag.Bytes(7, []byte("ab")), text) || tag.Of(7, []byte("ab")) != digest || tag.None() != none {
		t.Error("a call's answer hangs on the calls ahead of it")
	}
}

// P3.4.

func TestWhatIsDigestedIsRead(t *testing.T) {
	for _, parts := range lists() {
		for _, kind := range kinds {
			checkRead(t, tag.Bytes(kind, parts...), kind, parts)
		}
	}
}

func TestWhatIsReadIsDigestedAgain(t *testing.T) {
	for _, parts := range lists() {
		for _, kind := range kinds {
			b := digested(kind, parts)
			gotKind, got, _ := tag.Parts(b)
			if !bytes.Equal(tag.Bytes(gotKind, got...), b) {
				t.Errorf("read, and digested again, are other bytes: %s", short(b))
			}
		}
	}
}

// All lists of parts, none of them empty, that are b one behind the other.
func cuts(b []byte) [][][]byte {
	if len(b) == 0 {
		return [][][]byte{nil}
	}
	var all [][][]byte
	for end := 1; end <= len(b); end++ {
		for _, rest := range cuts(b[end:]) {
			all = append(all, append([][]byte{b[:end]}, rest...))
		}
	}
	return all
}

// These, and each of them with an empty part more at each place.
func cutsAndEmpty(b []byte) [][][]byte {
	all := cuts(b)
	for _, parts := range all {
		for i := range len(parts) + 1 {
			all = append(all, slices.Insert(slices.Clone(parts), i, []byte{}))
		}
	}
	return all
}

// Two lists are one, if they have as many parts, of as many bytes each, and the same bytes.
func name(kind uint8, parts [][]byte) string {
	return fmt.Sprintf("%d %q", kind, parts)
}

func TestUnlikeOnesAreUnlikeTexts(t *testing.T) {
	seen := map[string]string{}
	var all [][][]byte
	// Bytes that look like counts, or that are all the same, are most easily taken for others.
	for _, b := range [][]byte{nil, {0}, {0, 0, 0, 0}, {0, 0, 0, 0, 0}, {0, 0, 0, 1}, {0, 0, 0, 1, 7}, counted(6), bytes.Repeat([]byte{7}, 7)} {
		all = append(all, cutsAndEmpty(b)...)
	}
	for _, parts := range append(all, lists()...) {
		for _, kind := range []uint8{0, 7, 255} {
			text := string(tag.Bytes(kind, parts...))
			own := name(kind, parts)
			if other, ok := seen[text]; ok && other != own {
				t.Errorf("unlike ones have one text: %.60s and %.60s", own, other)
			}
			seen[text] = own
		}
	}
}

func TestOtherCutsAreOtherTexts(t *testing.T) {
	for _, b := range [][]byte{counted(1), counted(2), counted(5), {0, 0, 0, 1, 7}, make([]byte, 9)} {
		seen := map[string]bool{}
		for i := range len(b) + 1 {
			for j := i; j <= len(b); j++ {
				seen[string(tag.Bytes(3, b[:i], b[i:j], b[j:]))] = true
			}
			seen[string(tag.Bytes(3, b[:i], b[i:]))] = true
		}
		seen[string(tag.Bytes(3, b))] = true
		n := len(b) + 1
		if len(seen) != n*(n+1)/2+n+1 {
			t.Errorf("%d bytes, cut otherwise: only %d texts", len(b), len(seen))
		}
	}
}
