package rows_test

import (
	"bytes"
	"crypto/sha256"
	"encoding/binary"
	"encoding/hex"
	"fmt"
	"math"
	"math/rand"
	"slices"
	"testing"

	"beadroll/api"
	"beadroll/rows"
	"beadroll/tag"
)

// No byte is like the one beside it, so that one that is left out or turned round shows.
func counted(n int) []byte {
	b := make([]byte, n)
	for i := range b {
		b[i] = byte(i*7 + i>>8*5 + 3)
	}
	return b
}

func texts(list ...string) [][]byte {
	var l [][]byte
	for _, s := range list {
		l = append(l, []byte(s))
	}
	return l
}

// So many rows, all unlike.
func named(n int) [][]byte {
	var l [][]byte
	for i := range n {
		l = append(l, []byte(fmt.Sprint("row ", i)))
	}
	return l
}

func hashed(i int) api.Digest {
	return sha256.Sum256([]byte(fmt.Sprint("key ", i)))
}

func bitTurned(d api.Digest, i int) api.Digest {
	d[i/8] ^= 128 >> (i % 8)
	return d
}

// By the library, and not by tag, so that a fault there shows.
func digested(kind byte, parts ...[]byte) api.Digest {
	b := []byte{kind}
	for _, p := range parts {
		b = append(binary.BigEndian.AppendUint32(b, uint32(len(p))), p...)
	}
	return sha256.Sum256(b)
}

func joined(l, r api.Digest) api.Digest {
	return digested(8, l[:], r[:])
}

// How many rows of more than one are the first ones, counted up from 1.
func firstOnes(many int) int {
	n := 1
	for n*2 < many {
		n *= 2
	}
	return n
}

// The words of the chapter, one by one.
func rootOf(l [][]byte) api.Digest {
	if len(l) == 0 {
		return digested(0)
	}
	if len(l) == 1 {
		return digested(7, l[0])
	}
	n := firstOnes(len(l))
	return joined(rootOf(l[:n]), rootOf(l[n:]))
}

func sidesOf(l [][]byte, i int) []api.Digest {
	if len(l) == 1 {
		return nil
	}
	n := firstOnes(len(l))
	if i < n {
		return append(sidesOf(l[:n], i), rootOf(l[n:]))
	}
	return append(sidesOf(l[n:], i-n), rootOf(l[:n]))
}

// What sides make of a row, and whether there are just so many as its place has.
func madeOf(many, i int, row []byte, sides []api.Digest) (root api.Digest, are bool) {
	if many == 1 {
		return digested(7, row), len(sides) == 0
	}
	if len(sides) == 0 {
		return api.Digest{}, false
	}
	below, side := sides[:len(sides)-1], sides[len(sides)-1]
	n := firstOnes(many)
	if i < n {
		root, are = madeOf(n, i, row, below)
		return joined(root, side), are
	}
	root, are = madeOf(many-n, i-n, row, below)
	return joined(side, root), are
}

// Lists that are lists: of all counts, and of rows of all sizes at the edges.
func lists() [][][]byte {
	all := [][][]byte{
		{}, {nil}, {{}}, {nil, {}}, {{}, {}, nil}, {{0}}, {{0}, {0}}, {{0}, {}}, {{}, {0}},
		texts("a"), texts("a", "b"), texts("b", "a"), texts("ab"), texts("a", "b", "c"), texts("a", "bc"), texts("ab", "c"),
		texts("a", "b", ""), texts("", "a", "b"), texts("a", "a", "a", "a"),
		slices.Repeat([][]byte{nil}, 256), slices.Repeat(texts("x"), 255), slices.Repeat([][]byte{counted(api.MaxPart)}, 256),
	}
	for n := range api.MaxRows + 1 {
		all = append(all, named(n))
	}
	for _, size := range []int{1, 2, 31, 32, 33, 35, 63, 64, 65, 72, 73, 255, 256, 1000, api.MaxPart - 1, api.MaxPart} {
		all = append(all, [][]byte{counted(size)}, [][]byte{{1}, counted(size)}, [][]byte{counted(size), nil, counted(size)})
	}
	// The bytes of two digests as a row are no two rows.
	a, b := digested(7, []byte("a")), digested(7, []byte("b"))
	return append(all, [][]byte{slices.Concat(a[:], b[:])}, [][]byte{a[:], b[:]})
}

// A list that is none, by how it is wrong.
func wrongLists() map[string][][]byte {
	greater := counted(api.MaxPart + 1)
	wrong := map[string][][]byte{
		"257 rows": named(257), "257 empty rows": make([][]byte, 257), "258 rows": named(258), "512 rows": named(512),
		"10,000 rows": named(10000), "2^20 empty rows": make([][]byte, 1<<20),
		"a row of 4,097 bytes": {greater}, "a row of 2^20 bytes": {counted(1 << 20)},
		"two rows of 4,097 bytes": {greater, greater}, "257 rows of 4,097 bytes": slices.Repeat([][]byte{greater}, 257),
	}
	for _, n := range []int{2, 3, 7, 8, 9, 255, 256} {
		for _, at := range []int{0, 1, n / 2, n - 2, n - 1} {
			l := named(n)
			l[at] = greater
			wrong[fmt.Sprint(n, " rows, the one at ", at, " of 4,097 bytes")] = l
		}
	}
	return wrong
}

// Places that no list has, or not this one.
func wrongPlaces(many int) []int {
	return []int{math.MinInt, math.MinInt32, -257, -256, -many - 1, -2, -1,
		many, many + 1, 2*many + 1, 256, 257, math.MaxInt32, 1 << 32, math.MaxInt - 1, math.MaxInt}
}

// Places to be looked at: all of a short list, and of a longer one those at the ends, and
// about where it is parted.
func places(many int) []int {
	var at []int
	for i := range many {
		cut := firstOnes(max(many, 2))
		if many <= 20 || i < 2 || i >= many-2 || i == cut-1 || i == cut || i%97 == 50 {
			at = append(at, i)
		}
	}
	return at
}

func brief(l [][]byte) string {
	if len(l) > 4 {
		return fmt.Sprint(len(l), " rows")
	}
	var sizes []int
	for _, row := range l {
		sizes = append(sizes, len(row))
	}
	return fmt.Sprint("rows of ", sizes, " bytes")
}

func wantRoot(t *testing.T, l [][]byte, want api.Digest) {
	t.Helper()
	if d, e := rows.Root(l); e != api.OK || d != want {
		t.Errorf("Root of %s: %x, error %d, want %x", brief(l), d, e, want)
	}
}

func wantSides(t *testing.T, l [][]byte, i int, want []api.Digest) {
	t.Helper()
	if got, e := rows.Sides(l, i); e != api.OK || !slices.Equal(got, want) {
		t.Errorf("Sides of %d of %s: %x, error %d, want %x", i, brief(l), got, e, want)
	}
}

func wantNoSides(t *testing.T, what string, l [][]byte, i int, want api.Errno) {
	t.Helper()
	if got, e := rows.Sides(l, i); e != want || len(got) != 0 {
		t.Errorf("Sides of %d of %s: %d of them, error %d, want error %d", i, what, len(got), e, want)
	}
}

func wantFits(t *testing.T, what string, want bool, root api.Digest, many, i int, row []byte, sides []api.Digest) {
	t.Helper()
	if got := rows.Fits(root, many, i, row, sides); got != want {
		t.Errorf("%s: row %d of %d with %d sides fits: %t", what, i, many, len(sides), got)
	}
}

// The chapter's examples.

func TestExamples(t *testing.T) {
	a, b, c := tag.Of(7, []byte("a")), tag.Of(7, []byte("b")), tag.Of(7, []byte("c"))
	ab := tag.Of(8, a[:], b[:])
	l := texts("a", "b", "c")
	wantRoot(t, nil, tag.None())
	wantRoot(t, texts("a"), a)
	wantRoot(t, l, tag.Of(8, ab[:], c[:]))
	wantSides(t, l, 0, []api.Digest{b, c})
	wantSides(t, l, 2, []api.Digest{ab})
	wantNoSides(t, "three rows", l, 3, api.ErrArg)
}

func read(t *testing.T, text string) api.Digest {
	t.Helper()
	b, err := hex.DecodeString(text)
	if err != nil || len(b) != 32 {
		t.Fatalf("%q is no digest's text", text)
	}
	return api.Digest(b)
}

// Worked out by another program, once, so that nothing of this one's is asked.
func TestRootsThatAreKnown(t *testing.T) {
	for n, text := range map[int]string{
		0:   "6e340b9cffb37a989ca544e6bb780a2c78901d3fb33738768511a30617afa01d",
		1:   "ab160b8724ea930e141db9a07b7cb62173f473b602c7cea00efbeab8d5eb8625",
		2:   "2c1b8547c944eb70af554a2023f7efa36503b555891d06ddcd29358ab2263357",
		3:   "24e14587e58cf19aa3513ad9b195f58957d3676b332d955fd6290209171cbbbd",
		4:   "38c8faa7aa2f96bc3f8b5a6f282c9a87a95540c7c1545ffc248a0a8da1c65893",
		5:   "65db95fc11e1bcf58f438ce6b5368df142068c40192c72d48b85089025fcfea7",
		6:   "dea234bbf1e2cb3ae61d853f43a3700e283ddd86a0f2299c302f7f5a83f85600",
		7:   "99b4518d24b61719df9e1d8649b16cd602a7cfc1b2a24fec1415c651ce6d1425",
		8:   "fa36f6aca6da5f969a8d6fe13d48f154c479797e74477e68b9b45089dc819783",
		9:   "fd984bda62f3f51e36f34e9429f2273c2d64fbb46aed6d7eb9e1d9148d59970c",
		100: "4d4fd516b51bbea42e5056cb9cbac9a54b832ac4365e70b67e552a1c4b7a7e28",
		255: "b69ad2b97636ef5afe9217c23c4b8cf662d4819dc95ab16ef1541363f2731536",
		256: "5e2b99972fdf4d2e94b83a9d6a429d02d64d444b815e3e993e25b1088593afe5",
	} {
		wantRoot(t, named(n), read(t, text))
	}
}

func TestSidesThatAreKnown(t *testing.T) {
	wantSides(t, named(5), 0, []api.Digest{
		read(t, "3a3cc08c4f789f1df932947817dbcd36001c45f1f0c0f8c2f17713a7c53183ed"),
		read(t, "73380799b3236204e2a038fe50f11a4bfb7c5e0f5136fdb83760a64ab7211777"),
		read(t, "d2037ec9faf1073d9ec10393ae9cea0d13fc80e6a1f3f10b9fd104f2dec5f55c"),
	})
	wantSides(t, named(5), 4, []api.Digest{
		read(t, "38c8faa7aa2f96bc3f8b5a6f282c9a87a95540c7c1545ffc248a0a8da1c65893"),
	})
	wantSides(t, named(7), 5, []api.Digest{
		read(t, "d2037ec9faf1073d9ec10393ae9cea0d13fc80e6a1f3f10b9fd104f2dec5f55c"),
		read(t, "e90bd0ee19d8db7abeef96dcd33242424875b17e096a3c5f9bd2d7d5a6711706"),
		read(t, "38c8faa7aa2f96bc3f8b5a6f282c9a87a95540c7c1545ffc248a0a8da1c65893"),
	})
}

// P13.1: Root.

func TestRootByItsWords(t *testing.T) {
	for _, l := range lists() {
		wantRoot(t, l, rootOf(l))
	}
}

func TestRootOfNone(t *testing.T) {
	wantRoot(t, nil, digested(0))
	wantRoot(t, [][]byte{}, digested(0))
	wantRoot(t, [][]byte{nil}, digested(7, nil))
	wantRoot(t, [][]byte{{}}, digested(7, nil))
}

func TestRootRefusesWhatIsNoList(t *testing.T) {
	for what, l := range wrongLists() {
		if d, e := rows.Root(l); e != api.ErrBad || d != (api.Digest{}) {
			t.Errorf("Root of %s: %x, error %d", what, d, e)
		}
	}
}

// Each row has its say, and so has where it stands, and how many there are.
func TestUnlikeListsHaveUnlikeRoots(t *testing.T) {
	seen := map[api.Digest][][]byte{}
	var all [][][]byte
	for _, n := range []int{2, 3, 5, 8, 13, 256} {
		for at := range n {
			other, swapped := named(n), named(n)
			other[at] = append(other[at], '!')
			swapped[at], swapped[(at+1)%n] = swapped[(at+1)%n], swapped[at]
			all = append(all, other, swapped, slices.Delete(named(n), at, at+1))
		}
	}
	for _, l := range append(all, lists()...) {
		d, _ := rows.Root(l)
		if same, is := seen[d]; is && !slices.EqualFunc(same, l, bytes.Equal) {
			t.Errorf("%s and %s have one root", brief(same), brief(l))
		}
		seen[d] = l
	}
}

// P13.1: Sides.

func TestSidesByTheirWords(t *testing.T) {
	for _, l := range lists() {
		for _, i := range places(len(l)) {
			wantSides(t, l, i, sidesOf(l, i))
		}
	}
}

func TestCountOfSides(t *testing.T) {
	for _, c := range []struct{ many, i, sides int }{
		{1, 0, 0}, {2, 0, 1}, {2, 1, 1}, {3, 0, 2}, {3, 1, 2}, {3, 2, 1}, {4, 3, 2}, {5, 3, 3}, {5, 4, 1}, {6, 5, 2}, {7, 6, 2},
		{9, 0, 4}, {9, 8, 1}, {129, 0, 8}, {129, 128, 1}, {255, 254, 7}, {256, 0, 8}, {256, 127, 8}, {256, 128, 8}, {256, 255, 8},
	} {
		if got, e := rows.Sides(named(c.many), c.i); e != api.OK || len(got) != c.sides {
			t.Errorf("Sides of %d of %d rows: %d, error %d, want %d", c.i, c.many, len(got), e, c.sides)
		}
	}
}

func TestSidesRefusesWrongPlaces(t *testing.T) {
	for _, l := range lists() {
		for _, i := range wrongPlaces(len(l)) {
			if i < 0 || i >= len(l) {
				wantNoSides(t, brief(l), l, i, api.ErrArg)
			}
		}
	}
	wantNoSides(t, "nil", nil, 0, api.ErrArg)
	wantNoSides(t, "no rows", [][]byte{}, 0, api.ErrArg)
}

// What is no list is told ahead of a wrong place.
func TestSidesRefusesWhatIsNoList(t *testing.T) {
	for what, l := range wrongLists() {
		for _, i := range append(wrongPlaces(len(l)), 0, 1, len(l)-1) {
			wantNoSides(t, what, l, i, api.ErrBad)
		}
	}
}

// P13.2, P13.4.

func TestSidesFit(t *testing.T) {
	for _, l := range lists() {
		root, _ := rows.Root(l)
		for _, i := range places(len(l)) {
			sides, _ := rows.Sides(l, i)
			wantFits(t, brief(l), true, root, len(l), i, l[i], sides)
		}
	}
}

// All that Fits is told has its say.
func TestWhatDoesNotFit(t *testing.T) {
	for _, n := range []int{1, 2, 3, 4, 5, 6, 7, 8, 9, 13, 17, 100, 255, 256} {
		l := named(n)
		root := rootOf(l)
		for _, i := range places(n) {
			sides := sidesOf(l, i)
			wantFits(t, "another root", false, hashed(i), n, i, l[i], sides)
			wantFits(t, "no root", false, api.Digest{}, n, i, l[i], sides)
			wantFits(t, "another row", false, root, n, i, []byte("other"), sides)
			wantFits(t, "no row", false, root, n, i, nil, sides)
			wantFits(t, "a byte more", false, root, n, i, slices.Concat(l[i], []byte{0}), sides)
			wantFits(t, "a byte less", false, root, n, i, l[i][:len(l[i])-1], sides)
			for _, other := range places(n) {
				if other != i {
					wantFits(t, "another place", false, root, n, other, l[i], sides)
					wantFits(t, "the row of another place", false, root, n, i, l[other], sides)
				}
			}
		}
	}
}

func TestOtherSidesDoNotFit(t *testing.T) {
	for _, n := range []int{1, 2, 3, 5, 8, 13, 100, 256} {
		l := named(n)
		root := rootOf(l)
		for _, i := range places(n) {
			sides := sidesOf(l, i)
			wantFits(t, "a side more", false, root, n, i, l[i], append(slices.Clone(sides), hashed(1)))
			wantFits(t, "a side more", false, root, n, i, l[i], append(slices.Clone(sides), root))
			wantFits(t, "a side ahead", false, root, n, i, l[i], slices.Insert(slices.Clone(sides), 0, hashed(1)))
			wantFits(t, "257 sides", false, root, n, i, l[i], make([]api.Digest, 257))
			for at := range sides {
				wantFits(t, "a side less", false, root, n, i, l[i], slices.Delete(slices.Clone(sides), at, at+1))
				wantFits(t, "a side twice", false, root, n, i, l[i], slices.Insert(slices.Clone(sides), at, sides[at]))
				other := slices.Clone(sides)
				other[at] = hashed(1)
				wantFits(t, "another side", false, root, n, i, l[i], other)
				if at > 0 {
					turned := slices.Clone(sides)
					turned[at-1], turned[at] = turned[at], turned[at-1]
					wantFits(t, "sides turned round", false, root, n, i, l[i], turned)
				}
			}
			if len(sides) > 0 {
				wantFits(t, "no sides", false, root, n, i, l[i], nil)
			}
		}
	}
}

func TestEachBitHasItsSay(t *testing.T) {
	l := named(7)
	root, sides := rootOf(l), sidesOf(l, 5)
	for bit := range 256 {
		wantFits(t, "a root's bit turned", false, bitTurned(root, bit), 7, 5, l[5], sides)
		for at := range sides {
			other := slices.Clone(sides)
			other[at] = bitTurned(other[at], bit)
			wantFits(t, "a side's bit turned", false, root, 7, 5, l[5], other)
		}
	}
}

// Root, row and sides fit each other, so that the count or the place alone is what is wrong.
func TestFitsRefusesWrongCountsAndPlaces(t *testing.T) {
	row := []byte("a")
	own := digested(7, row)
	for _, many := range []int{math.MinInt, math.MinInt32, -256, -2, -1, 0} {
		for _, i := range []int{math.MinInt, many - 1, many, many + 1, -2, -1, 0, 1, math.MaxInt} {
			wantFits(t, "a count of no rows", false, own, many, i, row, nil)
			wantFits(t, "a count of no rows", false, joined(own, own), many, i, row, []api.Digest{own})
			wantFits(t, "a count of no rows", false, digested(0), many, i, nil, nil)
		}
	}
	for _, many := range []int{1, 2, 3, 7, 256} {
		l := named(many)
		root := rootOf(l)
		for _, i := range wrongPlaces(many) {
			if i < 0 || i >= many {
				for _, at := range places(many) {
					wantFits(t, "a place that is none", false, root, many, i, l[at], sidesOf(l, at))
				}
			}
		}
	}
}

func TestFitsRefusesGreaterCounts(t *testing.T) {
	for _, many := range []int{257, 258, 300, 511, 512, 513, 4096} {
		l := named(many)
		root := rootOf(l)
		for _, i := range []int{0, 1, 127, 255, 256, many - 2, many - 1} {
			wantFits(t, "a greater count", false, root, many, i, l[i], sidesOf(l, i))
		}
	}
	row := []byte("a")
	for _, many := range []int{1 << 20, math.MaxInt32, 1 << 32, 1 << 62, math.MaxInt - 1, math.MaxInt} {
		for _, i := range []int{math.MinInt, -1, 0, 1, 255, 256, many - 1, many} {
			wantFits(t, "a far greater count", false, digested(7, row), many, i, row, nil)
			wantFits(t, "a far greater count", false, digested(7, row), many, i, row, make([]api.Digest, 64))
		}
	}
}

func TestFitsAtTheEdgesOfRows(t *testing.T) {
	for _, size := range []int{0, 1, 32, 255, 256, api.MaxPart - 1, api.MaxPart, api.MaxPart + 1, api.MaxPart + 2, 1 << 16, 1 << 20} {
		for _, many := range []int{1, 2, 3, 256} {
			l := named(many)
			for _, i := range []int{0, many / 2, many - 1} {
				l[i] = counted(size)
				wantFits(t, brief(l), size <= api.MaxPart, rootOf(l), many, i, l[i], sidesOf(l, i))
				l[i] = []byte("other")
			}
		}
	}
}

// Whatever the sides, and whichever list they are of: by the words, for each count and place.
func TestFitsByItsWords(t *testing.T) {
	row := []byte("row")
	for many := 1; many <= 20; many++ {
		for i := range many {
			for count := range 7 {
				var sides []api.Digest
				for at := range count {
					sides = append(sides, hashed(at))
				}
				root, are := madeOf(many, i, row, sides)
				wantFits(t, "any sides", are, root, many, i, row, sides)
				wantFits(t, "any sides, another root", false, hashed(-1), many, i, row, sides)
			}
		}
	}
}

// Sides that fit the root of three rows as the third of them are, by the words, such of the
// second one of two, too: how many rows there are is not digested.
func TestFitsGoesByTheTurnsAlone(t *testing.T) {
	l := named(9)
	for many := 1; many <= 9; many++ {
		for i := range many {
			root, sides := rootOf(l[:many]), sidesOf(l[:many], i)
			for otherMany := 1; otherMany <= 9; otherMany++ {
				for other := range otherMany {
					made, are := madeOf(otherMany, other, l[i], sides)
					wantFits(t, "sides of another list", are && made == root, root, otherMany, other, l[i], sides)
				}
			}
		}
	}
	wantFits(t, "the third of three", true, rootOf(l[:3]), 2, 1, l[2], sidesOf(l[:3], 2))
}

// A row that looks like what is digested of two parts does not stand for them.
func TestRowIsNoPart(t *testing.T) {
	a, b := digested(7, []byte("a")), digested(7, []byte("b"))
	root := joined(a, b)
	two := slices.Concat(a[:], b[:])
	whole := slices.Concat([]byte{8, 0, 0, 0, 32}, a[:], []byte{0, 0, 0, 32}, b[:])
	for _, row := range [][]byte{two, whole, whole[1:], a[:], root[:]} {
		wantFits(t, "a row of digests", false, root, 1, 0, row, nil)
		wantFits(t, "a row of digests", false, root, 2, 0, row, []api.Digest{b})
	}
}

// P13.3.

// The bytes and rows behind a list's own ones are its caller's: neither read nor changed.
func roomy(l [][]byte) [][]byte {
	out := make([][]byte, 0, len(l)+3)
	for _, row := range l {
		b := append(make([]byte, 0, len(row)+8), row...)
		copy(b[len(b):cap(b)], "beyond!!")
		out = append(out, b)
	}
	beyond := out[len(out):cap(out)]
	for i := range beyond {
		beyond[i] = []byte("a row beyond")
	}
	return out
}

func wholly(l [][]byte) [][]byte {
	var out [][]byte
	for _, row := range l[:cap(l)] {
		out = append(out, slices.Clone(row[:cap(row)]))
	}
	return out
}

func sameRows(a, b [][]byte) bool {
	return slices.EqualFunc(a, b, bytes.Equal)
}

func roomySides(sides []api.Digest) []api.Digest {
	out := append(make([]api.Digest, 0, len(sides)+3), sides...)
	for i := range out[len(out):cap(out)] {
		out[:cap(out)][len(out)+i] = hashed(-i)
	}
	return out
}

func TestWhatIsHandedInStays(t *testing.T) {
	all := lists()
	for _, l := range wrongLists() {
		all = append(all, l)
	}
	for _, l := range all {
		if len(l) > 2000 {
			continue
		}
		in := roomy(l)
		before := wholly(in)
		rows.Root(in)
		for _, i := range []int{-1, 0, len(l) / 2, len(l) - 1, len(l)} {
			rows.Sides(in, i)
		}
		if !sameRows(wholly(in), before) {
			t.Errorf("%s that were handed in are changed", brief(l))
		}
	}
}

func TestWhatIsHandedToFitsStays(t *testing.T) {
	for _, n := range []int{1, 2, 3, 7, 100, 256} {
		l := roomy(named(n))
		before := wholly(l)
		for _, i := range places(n) {
			sides := roomySides(sidesOf(l, i))
			own := slices.Clone(sides[:cap(sides)])
			for _, many := range []int{n - 1, n, n + 1} {
				rows.Fits(rootOf(l), many, i, l[i], sides)
			}
			if !slices.Equal(sides[:cap(sides)], own) || !sameRows(wholly(l), before) {
				t.Errorf("what was handed in of row %d of %d is changed", i, n)
			}
		}
	}
}

// What stands behind the ends is not read: the answers are those without it.
func TestWhatIsBehindTheEndsIsNotRead(t *testing.T) {
	for _, n := range []int{0, 1, 2, 3, 7, 255, 256} {
		l := roomy(named(n))
		wantRoot(t, l, rootOf(named(n)))
		wantNoSides(t, brief(l), l, n, api.ErrArg)
		for _, i := range places(n) {
			sides := sidesOf(named(n), i)
			wantSides(t, l, i, sides)
			wantFits(t, brief(l), true, rootOf(named(n)), n, i, l[i], roomySides(sides))
			if len(sides) > 0 {
				wantFits(t, "the last side behind the end", false, rootOf(named(n)), n, i, l[i], sides[:len(sides)-1])
			}
		}
	}
}

// Also what an append to them would write to.
func overwrite(sides []api.Digest) {
	sides = sides[:cap(sides)]
	for i := range sides {
		sides[i] = hashed(-7)
	}
}

func TestSidesAreNewMemory(t *testing.T) {
	for _, n := range []int{1, 2, 3, 7, 100, 256} {
		for _, i := range places(n) {
			l := named(n)
			want := sidesOf(l, i)
			first, _ := rows.Sides(l, i)
			second, _ := rows.Sides(l, i)
			overwrite(second)
			if !slices.Equal(first, want) {
				t.Errorf("the sides of %d of %d share memory with others", i, n)
			}
			overwrite(first)
			if !sameRows(l, named(n)) {
				t.Errorf("the sides of %d of %d share memory with the rows", i, n)
			}
			wantSides(t, l, i, want)
			third, _ := rows.Sides(l, i)
			for at := range l {
				clear(l[at])
			}
			if !slices.Equal(third, want) {
				t.Errorf("the sides of %d of %d change with the rows", i, n)
			}
		}
	}
}

// Digests as rows, that a list may hand in as they are.
func TestRowsMayShareMemory(t *testing.T) {
	b := counted(64)
	l := [][]byte{b[:32], b[16:48], b[32:], b, b[:0]}
	wantRoot(t, l, rootOf(l))
	for i := range l {
		sides := sidesOf(l, i)
		wantSides(t, l, i, sides)
		wantFits(t, "rows of one memory", true, rootOf(l), len(l), i, l[i], sides)
	}
	if !bytes.Equal(b, counted(64)) {
		t.Error("rows of one memory are changed")
	}
}

// P13.4, of whatever rows.

func TestSidesOfAnyRowsFit(t *testing.T) {
	random := rand.New(rand.NewSource(13))
	for range 300 {
		l := make([][]byte, 1+random.Intn(api.MaxRows))
		for i := range l {
			l[i] = make([]byte, random.Intn(80))
			random.Read(l[i])
		}
		root, e := rows.Root(l)
		if e != api.OK || root != rootOf(l) {
			t.Fatalf("Root of %d rows: error %d", len(l), e)
		}
		i := random.Intn(len(l))
		sides, e := rows.Sides(l, i)
		if e != api.OK || !rows.Fits(root, len(l), i, l[i], sides) {
			t.Fatalf("the sides of row %d of %d do not fit, error %d", i, len(l), e)
		}
		if rows.Fits(root, len(l), i, append(l[i], 1), sides) {
			t.Fatalf("another row %d of %d fits", i, len(l))
		}
	}
}

func TestNothingIsKept(t *testing.T) {
	l := named(100)
	root, _ := rows.Root(l)
	sides, _ := rows.Sides(l, 37)
	rows.Root(named(3))
	rows.Sides(named(200), 1)
	rows.Fits(root, 99, 37, l[37], sides)
	wantRoot(t, l, root)
	wantSides(t, l, 37, sides)
}
