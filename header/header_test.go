package header_test

import (
	"bytes"
	"crypto/sha256"
	"encoding/binary"
	"encoding/hex"
	"fmt"
	"math"
	"math/rand"
	"slices"
	"testing"

	"beadroll/api"
	"beadroll/header"
	"beadroll/tag"
)

const (
	size   = 108
	manyAt = 104
)

func filled(b byte) api.Digest {
	return api.Digest(bytes.Repeat([]byte{b}, 32))
}

func counting(first byte) api.Digest {
	var d api.Digest
	for i := range d {
		d[i] = first + byte(i)
	}
	return d
}

func hashed(i int) api.Digest {
	return sha256.Sum256([]byte(fmt.Sprint("key ", i)))
}

// No byte is like the one beside it, so that one that is left out or turned round shows.
func counted(n int) []byte {
	b := make([]byte, n)
	for i := range b {
		b[i] = byte(i*7 + 3)
	}
	return b
}

func bitTurned(b []byte, i int) []byte {
	b = slices.Clone(b)
	b[i/8] ^= 128 >> (i % 8)
	return b
}

// By the library, and not by header itself or what it stands on, so that a fault there shows.
func digested(kind uint8, part []byte) api.Digest {
	b := binary.BigEndian.AppendUint32([]byte{kind}, uint32(len(part)))
	return sha256.Sum256(append(b, part...))
}

func bytesWith(height uint64, parent, state, rows api.Digest, many uint32) []byte {
	b := binary.BigEndian.AppendUint64(nil, height)
	b = slices.Concat(b, parent[:], state[:], rows[:])
	return binary.BigEndian.AppendUint32(b, many)
}

func bytesOf(h api.Header) []byte {
	return bytesWith(uint64(h.Height), h.Parent, h.State, h.Rows, uint32(h.Many))
}

func hashOf(h api.Header) api.Digest {
	return digested(6, bytesOf(h))
}

func heights() []int {
	all := []int{0, 1, 2, 127, 128, 255, 256, 257, 258, 1000, 65535, 65536, 1<<24 - 1, 1 << 24}
	return append(all, 1<<29, 1<<30-2, 1<<30-1, 1<<30)
}

func counts() []int {
	return []int{0, 1, 2, 3, 16, 32, 127, 128, 254, 255, 256}
}

// Numbers that are below 0, or greater than the limit, though some end in the bytes of one
// that may be.
func beyond(limit int) []int {
	all := []int{
		-1, -2, -255, -256, -257, -limit, -limit - 1, limit + 1, limit + 2, 2 * limit, 2*limit + 1,
		math.MinInt, math.MinInt + 1, math.MinInt32, math.MaxInt, math.MaxInt - 1, math.MaxInt32,
		math.MaxUint32, 1 << 32, 1<<32 + 1, 1<<32 + limit, 1<<40 + 3, 1 << 62, math.MinInt + limit,
	}
	return append(all, math.MinInt32+1, -1<<32, 1-1<<32, -1<<40)
}

// Headers that may be.
func headers() []api.Header {
	all := []api.Header{
		{}, {Parent: filled(255)}, {State: filled(255)}, {Rows: filled(255)},
		{Height: 1 << 30, Parent: filled(255), State: filled(255), Rows: filled(255), Many: 256},
		{Parent: api.Digest{0: 1}}, {Parent: api.Digest{31: 1}}, {State: api.Digest{0: 1}}, {State: api.Digest{31: 1}},
		{Rows: api.Digest{0: 1}}, {Rows: api.Digest{31: 1}},
		{Height: 5, Parent: hashed(1), State: hashed(2), Rows: hashed(3), Many: 7},
		{Height: 7, Parent: hashed(1), State: hashed(2), Rows: hashed(3), Many: 5},
		{Height: 5, Parent: hashed(2), State: hashed(1), Rows: hashed(3), Many: 7},
		{Height: 5, Parent: hashed(1), State: hashed(3), Rows: hashed(2), Many: 7},
		{Height: 5, Parent: hashed(3), State: hashed(2), Rows: hashed(1), Many: 7},
	}
	for i, height := range heights() {
		for j, many := range counts() {
			all = append(all, api.Header{Height: height, Many: many},
				api.Header{Height: height, Parent: hashed(i), State: hashed(i + j), Rows: hashed(100 + j), Many: many})
		}
	}
	return all
}

// Headers that may not be.
func wrong() []api.Header {
	var all []api.Header
	full := api.Header{Parent: hashed(1), State: hashed(2), Rows: hashed(3)}
	add := func(height, many int) {
		h := full
		h.Height, h.Many = height, many
		all = append(all, api.Header{Height: height, Many: many}, h)
	}
	for _, height := range beyond(api.MaxHeight) {
		for _, many := range append(beyond(api.MaxRows), counts()...) {
			add(height, many)
		}
	}
	for _, many := range beyond(api.MaxRows) {
		for _, height := range heights() {
			add(height, many)
		}
	}
	return all
}

func wantRefused(t *testing.T, what string, b []byte, want api.Errno) {
	t.Helper()
	if h, e := header.Read(b); e != want || h != (api.Header{}) {
		t.Errorf("Read of %s: error %d and %v, want error %d and nothing", what, e, h, want)
	}
}

func wantFollows(t *testing.T, what string, want bool, h, parent api.Header) {
	t.Helper()
	if got := header.Follows(h, parent); got != want {
		t.Errorf("%s: %v follows %v: %t", what, h, parent, got)
	}
}

// The chapter's examples.

func TestExamples(t *testing.T) {
	b, e := header.Bytes(api.Header{Height: 258, Many: 3})
	want := slices.Concat([]byte{0, 0, 0, 0, 0, 0, 1, 2}, make([]byte, 96), []byte{0, 0, 0, 3})
	if e != api.OK || !bytes.Equal(b, want) {
		t.Errorf("Bytes of height 258, Many 3: %v, error %d", b, e)
	}
	for _, h := range []api.Header{{Height: -1}, {Many: 257}} {
		if e := header.Check(h); e != api.ErrBad {
			t.Errorf("Check of %v: error %d", h, e)
		}
	}
	wantRefused(t, "107 bytes", make([]byte, 107), api.ErrShort)
	wantRefused(t, "109 bytes", make([]byte, 109), api.ErrLong)
	wantRefused(t, "108 bytes 255", bytes.Repeat([]byte{255}, 108), api.ErrBad)
	hash, e := header.Hash(api.Header{})
	if e != api.OK {
		t.Errorf("Hash of height 0: error %d", e)
	}
	wantFollows(t, "height 1", true, api.Header{Height: 1, Parent: hash}, api.Header{})
}

// P14.1: Check.

func TestCheckOfWhatMayBe(t *testing.T) {
	for _, h := range headers() {
		if e := header.Check(h); e != api.OK {
			t.Errorf("Check of %v: error %d", h, e)
		}
	}
}

func TestCheckOfWhatMayNotBe(t *testing.T) {
	for _, h := range wrong() {
		if e := header.Check(h); e != api.ErrBad {
			t.Errorf("Check of %v: error %d", h, e)
		}
	}
}

func TestCheckOfEachCount(t *testing.T) {
	for many := -1000; many <= 2000; many++ {
		e := header.Check(api.Header{Height: 3, Many: many})
		if may := 0 <= many && many <= 256; (e == api.OK) != may || !may && e != api.ErrBad {
			t.Errorf("Check of Many %d: error %d", many, e)
		}
	}
}

// P14.1: Bytes.

func TestBytesOfOneThatCounts(t *testing.T) {
	want := []byte{0, 0, 0, 0, 0x12, 0x34, 0x56, 0x78}
	for i := range byte(96) {
		want = append(want, 100+i)
	}
	want = append(want, 0, 0, 1, 0)
	b, e := header.Bytes(api.Header{
		Height: 0x12345678, Parent: counting(100), State: counting(132), Rows: counting(164), Many: 256,
	})
	if e != api.OK || !bytes.Equal(b, want) {
		t.Errorf("Bytes: %v, error %d", b, e)
	}
}

func TestBytesTellTheFields(t *testing.T) {
	for _, h := range headers() {
		b, e := header.Bytes(h)
		if e != api.OK || len(b) != size || !bytes.Equal(b, bytesOf(h)) {
			t.Errorf("Bytes of %v: %v, error %d", h, b, e)
		}
	}
}

func TestBytesAndHashRefuseWhatMayNotBe(t *testing.T) {
	for _, h := range wrong() {
		if b, e := header.Bytes(h); e != api.ErrBad || b != nil {
			t.Errorf("Bytes of %v: %v, error %d", h, b, e)
		}
		if d, e := header.Hash(h); e != api.ErrBad || d != (api.Digest{}) {
			t.Errorf("Hash of %v: %x, error %d", h, d, e)
		}
	}
}

// Each bit of each field that may be turned stands in its own place, and in no other one.
func TestEachBitHasItsPlace(t *testing.T) {
	for _, b := range [][]byte{
		make([]byte, size), bytesOf(api.Header{Parent: counting(1), State: counting(50), Rows: counting(90)}),
		bytesOf(api.Header{Parent: filled(255), State: filled(255), Rows: filled(255)}),
	} {
		// From the one of 2^30 on; of Many from that of 256 on.
		for i := 64 - 31; i < size*8; i++ {
			if manyAt*8 <= i && i < size*8-9 {
				continue
			}
			other := bitTurned(b, i)
			h, e := header.Read(other)
			if e != api.OK || h != headerOf(other) {
				t.Errorf("Read, with bit %d turned: %v, error %d", i, h, e)
			}
			if got, e := header.Bytes(headerOf(other)); e != api.OK || !bytes.Equal(got, other) {
				t.Errorf("Bytes, with bit %d turned: %v, error %d", i, got, e)
			}
			if d, e := header.Hash(headerOf(other)); e != api.OK || d != digested(6, other) {
				t.Errorf("Hash, with bit %d turned: %x, error %d", i, d, e)
			}
		}
	}
}

// The header that 108 bytes tell.
func headerOf(b []byte) api.Header {
	return api.Header{
		Height: int(binary.BigEndian.Uint64(b)), Parent: api.Digest(b[8:40]), State: api.Digest(b[40:72]),
		Rows: api.Digest(b[72:104]), Many: int(binary.BigEndian.Uint32(b[manyAt:])),
	}
}

// P14.1: Hash.

// Worked out by another program, once, so that nothing of this one's is asked.
func TestHashesThatAreKnown(t *testing.T) {
	for _, c := range []struct {
		h    api.Header
		want string
	}{
		{api.Header{},
			"fda8408175e588367b6ccff97c28a6fd232f48cb842554f4f29b3d9018bc6a3a"},
		{api.Header{Height: 258, Parent: counting(0), State: counting(64), Rows: counting(200), Many: 3},
			"1ac015cfce6e2801f700ccd4e984b976ed347c9028d4f5ac7ed2ee09e7926439"},
		{api.Header{Height: 1 << 30, Parent: filled(255), State: filled(255), Rows: filled(255), Many: 256},
			"d3ffa356b5985b8f06b44d7989bd6f1974737d80338299c728cdf62478578196"},
		{api.Header{Height: 1, Parent: hashOf(api.Header{}), State: counting(1), Many: 1},
			"89694f576a6f9e032ec2933f1522ad13e5890db95e998a02866af5750723fbd6"},
	} {
		if d, e := header.Hash(c.h); e != api.OK || hex.EncodeToString(d[:]) != c.want {
			t.Errorf("Hash of %v: %x, error %d", c.h, d, e)
		}
	}
}

func TestHashIsTheDigestOfTheBytes(t *testing.T) {
	for _, h := range headers() {
		b, _ := header.Bytes(h)
		if d, e := header.Hash(h); e != api.OK || d != hashOf(h) || d != tag.Of(6, b) {
			t.Errorf("Hash of %v: %x, error %d", h, d, e)
		}
	}
}

func TestUnlikeOnesHaveUnlikeHashes(t *testing.T) {
	seen := map[api.Digest]api.Header{}
	for _, h := range headers() {
		d, _ := header.Hash(h)
		if other, is := seen[d]; is && other != h {
			t.Errorf("%v and %v have the same hash", h, other)
		}
		seen[d] = h
	}
}

// P14.1: Follows.

func TestOnesThatFollow(t *testing.T) {
	for _, parent := range headers() {
		if parent.Height == 1<<30 {
			continue
		}
		for i, many := range counts() {
			h := api.Header{Height: parent.Height + 1, Parent: hashOf(parent), State: hashed(i), Rows: hashed(i * 3), Many: many}
			wantFollows(t, "the next one", true, h, parent)
			wantFollows(t, "turned round", false, parent, h)
		}
		wantFollows(t, "all else zero", true, api.Header{Height: parent.Height + 1, Parent: hashOf(parent)}, parent)
	}
}

func TestManyOneBehindTheOther(t *testing.T) {
	var all []api.Header
	at := api.Header{State: hashed(1)}
	for i := range 40 {
		all = append(all, at)
		at = api.Header{Height: i + 1, Parent: hashOf(at), State: hashed(i), Rows: hashed(i + 1), Many: i}
	}
	for i, h := range all {
		for j, parent := range all {
			wantFollows(t, "of many", i == j+1, h, parent)
		}
	}
}

// Who follows a header follows no other one, and at no other height.
func TestOnesThatDoNotFollow(t *testing.T) {
	for _, parent := range headers() {
		hash := hashOf(parent)
		for _, height := range slices.Concat(heights(), beyond(api.MaxHeight), []int{
			parent.Height - 1, parent.Height, parent.Height + 2, parent.Height + 256, parent.Height + 1<<32, -parent.Height,
		}) {
			if height != parent.Height+1 || height > api.MaxHeight {
				wantFollows(t, "another height", false, api.Header{Height: height, Parent: hash}, parent)
			}
		}
		h := api.Header{Height: parent.Height + 1}
		for _, other := range []api.Digest{
			{}, parent.Parent, parent.State, parent.Rows, filled(255), sha256.Sum256(bytesOf(parent)),
			digested(5, bytesOf(parent)), digested(7, bytesOf(parent)), digested(6, hash[:]),
		} {
			h.Parent = other
			wantFollows(t, "another Parent", false, h, parent)
		}
		other := h
		other.Parent, other.State, other.Rows = api.Digest{}, hash, hash
		wantFollows(t, "the hash in other places", false, other, parent)
	}
}

func TestEachBitOfAHashHasItsSay(t *testing.T) {
	parent := api.Header{Height: 4, Parent: hashed(1), State: hashed(2), Rows: hashed(3), Many: 9}
	hash := hashOf(parent)
	for i := range 256 {
		h := api.Header{Height: 5, Parent: api.Digest(bitTurned(hash[:], i))}
		wantFollows(t, "a bit of the hash turned", false, h, parent)
	}
	for i := range size * 8 {
		other := headerOf(bitTurned(bytesOf(parent), i))
		wantFollows(t, "a bit of the other one turned", false, api.Header{Height: 5, Parent: hash}, other)
	}
}

// Height and Parent are right, but for what may not be.
func TestWhatMayNotBeDoesNotFollow(t *testing.T) {
	for _, parent := range wrong() {
		wantFollows(t, "the other one wrong", false, api.Header{Height: parent.Height + 1, Parent: hashOf(parent)}, parent)
		wantFollows(t, "the other one wrong, no hash", false, api.Header{Height: parent.Height + 1}, parent)
	}
	for _, height := range []int{-2, -1, math.MinInt, math.MaxInt} {
		parent := api.Header{Height: height}
		wantFollows(t, "a wrong height", false, api.Header{Height: height + 1, Parent: hashOf(parent)}, parent)
		wantFollows(t, "a wrong height, no hash", false, api.Header{Height: height + 1}, parent)
	}
	last := api.Header{Height: api.MaxHeight, State: hashed(1)}
	wantFollows(t, "behind the last height", false, api.Header{Height: api.MaxHeight + 1, Parent: hashOf(last)}, last)
	ahead := api.Header{Height: api.MaxHeight - 1, State: hashed(1)}
	wantFollows(t, "at the last height", true, api.Header{Height: api.MaxHeight, Parent: hashOf(ahead)}, ahead)
	parent := api.Header{Height: 3, State: hashed(1)}
	for _, many := range beyond(api.MaxRows) {
		wantFollows(t, "wrong itself", false, api.Header{Height: 4, Parent: hashOf(parent), Many: many}, parent)
		other := api.Header{Height: 3, State: hashed(1), Many: many}
		wantFollows(t, "the other one's Many wrong", false, api.Header{Height: 4, Parent: hashOf(other)}, other)
	}
}

// P14.2: Read.

func TestReadTellsTheHeader(t *testing.T) {
	for _, h := range headers() {
		if got, e := header.Read(bytesOf(h)); e != api.OK || got != h {
			t.Errorf("Read of the bytes of %v: %v, error %d", h, got, e)
		}
	}
}

// All bytes of both numbers are asked.
func TestReadRefusesGreatNumbers(t *testing.T) {
	p, s, r := hashed(1), hashed(2), hashed(3)
	for _, height := range []uint64{
		1<<30 + 1, 1<<30 + 2, 1 << 31, 1<<32 - 1, 1 << 32, 1<<32 + 1, 1<<40 + 5, 1 << 56, 1<<62 + 1, 1<<63 - 1, 1 << 63,
		1<<63 + 1, math.MaxUint64 - 1, math.MaxUint64,
	} {
		for _, many := range []uint32{0, 1, 256, 257, math.MaxUint32} {
			wantRefused(t, fmt.Sprint("height ", height, ", Many ", many), bytesWith(height, p, s, r, many), api.ErrBad)
		}
	}
	for _, many := range []uint32{257, 258, 511, 512, 1 << 16, 1<<16 + 3, 1 << 24, 1<<24 + 256, 1 << 31, 1<<31 + 1, math.MaxUint32} {
		for _, height := range []uint64{0, 1, 258, 1 << 30} {
			wantRefused(t, fmt.Sprint("height ", height, ", Many ", many), bytesWith(height, p, s, r, many), api.ErrBad)
		}
	}
	for i := range 64 - 31 {
		wantRefused(t, fmt.Sprint("bit ", i, " set"), bitTurned(make([]byte, size), i), api.ErrBad)
	}
	for i := range 32 - 9 {
		wantRefused(t, fmt.Sprint("bit ", i, " of Many set"), bitTurned(make([]byte, size), manyAt*8+i), api.ErrBad)
	}
}

// How many bytes there are is asked first, whatever they tell.
func TestReadRefusesOtherCounts(t *testing.T) {
	whole := bytesOf(api.Header{Height: 258, Parent: hashed(1), State: hashed(2), Rows: hashed(3), Many: 3})
	for _, b := range [][]byte{whole, make([]byte, size), counted(size), bytes.Repeat([]byte{255}, size)} {
		for n := range size {
			wantRefused(t, fmt.Sprint(n, " bytes"), b[:n], api.ErrShort)
			wantRefused(t, fmt.Sprint(n, " bytes, all there is"), b[:n:n], api.ErrShort)
			wantRefused(t, fmt.Sprint("the last ", n, " bytes"), b[size-n:], api.ErrShort)
		}
		for _, more := range []int{1, 2, 4, 8, 32, 107, 108, 109, 256, 4096, 1 << 20} {
			wantRefused(t, fmt.Sprint(size+more, " bytes"), slices.Concat(b, counted(more)), api.ErrLong)
			wantRefused(t, fmt.Sprint(size, " bytes, and ", more, " noughts"), slices.Concat(b, make([]byte, more)), api.ErrLong)
			wantRefused(t, fmt.Sprint(more, " noughts, and 108 bytes"), slices.Concat(make([]byte, more), b), api.ErrLong)
		}
	}
	wantRefused(t, "nil", nil, api.ErrShort)
	wantRefused(t, "no bytes", []byte{}, api.ErrShort)
	wantRefused(t, "one twice", slices.Concat(whole, whole), api.ErrLong)
}

// P14.3.

// What stands behind a list's end is its caller's: neither read nor changed.
func roomy(b []byte) []byte {
	out := append(make([]byte, 0, len(b)+size), b...)
	copy(out[len(b):cap(out)], counted(size))
	return out
}

func wholly(b []byte) []byte {
	return slices.Clone(b[:cap(b)])
}

// Also what an append to it would write to.
func overwrite(b []byte) {
	b = b[:cap(b)]
	for i := range b {
		b[i] ^= 0xff
	}
}

func TestBytesThatAreHandedInStay(t *testing.T) {
	whole := bytesOf(api.Header{Height: 258, Parent: hashed(1), State: hashed(2), Rows: hashed(3), Many: 3})
	for _, b := range [][]byte{{}, whole[:1], whole[:8], whole[:107], whole, append(whole, 7), make([]byte, size), counted(size), counted(300)} {
		in := roomy(b)
		before := wholly(in)
		header.Read(in)
		if !bytes.Equal(wholly(in), before) {
			t.Errorf("%d bytes that were handed in are changed", len(b))
		}
	}
}

func TestBytesBehindTheEndAreNotRead(t *testing.T) {
	h := api.Header{Height: 258, Parent: hashed(1), State: hashed(2), Rows: hashed(3), Many: 3}
	in := roomy(bytesOf(h))
	if got, e := header.Read(in); e != api.OK || got != h {
		t.Errorf("Read with room behind: %v, error %d", got, e)
	}
	wantRefused(t, "107 bytes, with the last one behind", in[:107], api.ErrShort)
}

// What is read stays, whatever becomes of the bytes.
func TestWhatIsReadIsItsOwn(t *testing.T) {
	for _, h := range headers() {
		in := bytesOf(h)
		got, e := header.Read(in)
		overwrite(in)
		if e != api.OK || got != h {
			t.Errorf("Read, the bytes overwritten: %v, error %d", got, e)
		}
	}
}

func TestHeadersThatAreHandedInStay(t *testing.T) {
	for _, h := range append(headers(), wrong()...) {
		before := h
		header.Check(h)
		header.Bytes(h)
		header.Hash(h)
		header.Follows(h, h)
		if h != before {
			t.Errorf("%v is changed: %v", before, h)
		}
	}
}

func TestBytesAreNewMemory(t *testing.T) {
	for _, h := range headers() {
		want, hash := bytesOf(h), hashOf(h)
		first, _ := header.Bytes(h)
		second, _ := header.Bytes(h)
		overwrite(second)
		if !bytes.Equal(first, want) {
			t.Errorf("the bytes of %v share memory with others", h)
		}
		overwrite(first)
		if third, _ := header.Bytes(h); !bytes.Equal(third, want) {
			t.Errorf("the bytes of %v are not new memory", h)
		}
		if d, _ := header.Hash(h); d != hash {
			t.Errorf("the hash of %v hangs on bytes that were told ahead", h)
		}
	}
}

// P14.4.

func TestBytesTellTheHeader(t *testing.T) {
	for _, h := range headers() {
		b, _ := header.Bytes(h)
		if got, e := header.Read(b); e != api.OK || got != h {
			t.Errorf("Read of the Bytes of %v: %v, error %d", h, got, e)
		}
	}
}

func TestUnlikeOnesHaveUnlikeBytes(t *testing.T) {
	seen := map[string]api.Header{}
	for _, h := range headers() {
		b, _ := header.Bytes(h)
		if other, is := seen[string(b)]; is && other != h {
			t.Errorf("%v and %v have the same bytes", h, other)
		}
		seen[string(b)] = h
	}
}

// Of whatever bytes: such as are read are those of what is read; all others are refused.
func TestWhatIsReadHasTheseBytes(t *testing.T) {
	random := rand.New(rand.NewSource(2))
	read := 0
	for range 20000 {
		b := make([]byte, size)
		random.Read(b)
		// Else next to none of them would be a header's.
		binary.BigEndian.PutUint64(b, random.Uint64()>>[]int{0, 31, 32, 33, 34, 60}[random.Intn(6)])
		binary.BigEndian.PutUint32(b[manyAt:], random.Uint32()>>[]int{0, 16, 22, 23, 24, 30}[random.Intn(6)])
		h, e := header.Read(b)
		may := binary.BigEndian.Uint64(b) <= 1<<30 && binary.BigEndian.Uint32(b[manyAt:]) <= 256
		if (e == api.OK) != may || !may && (e != api.ErrBad || h != (api.Header{})) {
			t.Fatalf("Read of %x: %v, error %d", b, h, e)
		}
		if e != api.OK {
			continue
		}
		read++
		if again, e := header.Bytes(h); e != api.OK || !bytes.Equal(again, b) {
			t.Fatalf("Bytes of what %x tell: %x, error %d", b, again, e)
		}
	}
	if read < 1000 {
		t.Errorf("only %d of them are headers'", read)
	}
}
