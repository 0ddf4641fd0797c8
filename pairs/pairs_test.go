package pairs_test

import (
	"bytes"
	"crypto/sha256"
	"encoding/binary"
	"fmt"
	"math/rand"
	"slices"
	"strings"
	"testing"

	"beadroll/api"
	"beadroll/pairs"
	"beadroll/tag"
)

// A key whose first byte is told, all others 0, as in the chapter's examples.
func key(first byte) api.Digest {
	return api.Digest{first}
}

func pair(first byte, v string) api.Pair {
	return api.Pair{Key: key(first), Value: []byte(v)}
}

// No byte is like the one beside it, so that one that is left out or turned round shows.
func counted(n int) []byte {
	b := make([]byte, n)
	for i := range b {
		b[i] = byte(i*7 + 3)
	}
	return b
}

func hashed(i int) api.Digest {
	return sha256.Sum256([]byte(fmt.Sprint("key ", i)))
}

func turned(k api.Digest, i int) api.Digest {
	k[i/8] ^= 128 >> (i % 8)
	return k
}

func filled(b byte) api.Digest {
	return api.Digest(bytes.Repeat([]byte{b}, 32))
}

// By the library, and not by path, so that a fault there or in pairs shows: of bytes
// whose highest bit is the first one, what is ahead is what is less.
func inOrder(keys []api.Digest) []api.Digest {
	keys = slices.Clone(keys)
	slices.SortFunc(keys, func(a, b api.Digest) int { return bytes.Compare(a[:], b[:]) })
	return slices.Compact(keys)
}

// Each value is its key's own, and of all lengths that may be.
func valueOf(k api.Digest) []byte {
	d := sha256.Sum256(k[:])
	return slices.Repeat(d[:], 2)[:1+int(d[0])%api.MaxValue]
}

func mapOf(keys []api.Digest) []api.Pair {
	var l []api.Pair
	for _, k := range inOrder(keys) {
		l = append(l, api.Pair{Key: k, Value: valueOf(k)})
	}
	return l
}

func hashedMap(n int) []api.Pair {
	var keys []api.Digest
	for i := range n {
		keys = append(keys, hashed(i))
	}
	return mapOf(keys)
}

// Keys that share as many bits as may be, two by two.
func twinnedMap(n int) []api.Pair {
	var keys []api.Digest
	for i := range n {
		k := hashed(i / 2)
		if i%2 == 1 {
			k = turned(k, 255)
		}
		keys = append(keys, k)
	}
	return mapOf(keys)
}

// Keys of which each parts from the first one at another bit: the deepest map.
func combMap(k api.Digest) []api.Pair {
	keys := []api.Digest{k}
	for i := range api.Depth {
		keys = append(keys, turned(k, i))
	}
	return mapOf(keys)
}

func maps() [][]api.Pair {
	all := [][]api.Pair{
		nil, {}, {pair(0, "x")}, {pair(255, "x")}, {{Value: counted(api.MaxValue)}},
		{pair(3, "a"), pair(9, "c")}, {pair(3, "a"), pair(200, "b")}, {pair(127, "a"), pair(128, "a")},
		mapOf([]api.Digest{{}, filled(255)}),
		twinnedMap(2), twinnedMap(9), twinnedMap(api.MaxPairs),
		combMap(api.Digest{}), combMap(filled(255)), combMap(filled(0xaa)), combMap(hashed(7)),
	}
	for _, n := range []int{1, 2, 3, 4, 5, 6, 7, 8, 9, 31, 100, api.MaxPairs - 1, api.MaxPairs} {
		all = append(all, hashedMap(n))
	}
	return all
}

// With 513 pairs a list that is right otherwise; and right maps with one thing wrong.
func wrongMaps() map[string][]api.Pair {
	wrong := map[string][]api.Pair{
		"9 and 3":              {pair(9, "a"), pair(3, "b")},
		"3 twice":              {pair(3, "a"), pair(3, "b")},
		"3 twice, all same":    {pair(3, "a"), pair(3, "a")},
		"an empty value":       {pair(3, "")},
		"a value that is nil":  {{Key: key(3)}},
		"65 bytes":             {{Key: key(3), Value: counted(api.MaxValue + 1)}},
		"5000 bytes":           {{Key: key(3), Value: counted(5000)}},
		"two zero pairs":       {{}, {}},
		"empty behind right":   {pair(3, "a"), pair(5, "b"), pair(9, "")},
		"empty ahead of right": {pair(3, ""), pair(5, "b"), pair(9, "c")},
		"65 bytes in between":  {pair(3, "a"), {Key: key(5), Value: counted(65)}, pair(9, "c")},
		"last two turned":      {pair(3, "a"), pair(5, "b"), pair(9, "c"), pair(8, "d")},
		"first two turned":     {pair(5, "a"), pair(3, "b"), pair(9, "c")},
		"first again, behind":  {pair(3, "a"), pair(5, "b"), pair(3, "c")},
		"last bits turned":     {{Key: api.Digest{31: 1}, Value: []byte("a")}, {Value: []byte("b")}},
		"513 pairs":            hashedMap(api.MaxPairs + 1),
		"513 twinned pairs":    twinnedMap(api.MaxPairs + 1),
		"2000 pairs":           hashedMap(2000),
		"10000 zero pairs":     make([]api.Pair, 10000),
	}
	for _, at := range []int{0, 1, 255, 256, 510} {
		l := hashedMap(api.MaxPairs)
		l[at], l[at+1] = l[at+1], l[at]
		wrong[fmt.Sprint("512 pairs, turned at ", at)] = l
		l = hashedMap(api.MaxPairs)
		l[at].Key = l[at+1].Key
		wrong[fmt.Sprint("512 pairs, twice at ", at)] = l
		l = hashedMap(api.MaxPairs)
		l[at].Value = nil
		wrong[fmt.Sprint("512 pairs, empty at ", at)] = l
	}
	return wrong
}

// All keys of the map, those beside them, and some that lie anywhere.
func keysAbout(l []api.Pair) []api.Digest {
	keys := []api.Digest{{}, filled(255), key(1), key(4), key(127), key(128), hashed(-1), hashed(-2)}
	for i, p := range l {
		keys = append(keys, p.Key)
		if i%17 == 0 {
			keys = append(keys, turned(p.Key, 255), turned(p.Key, i%256), turned(p.Key, 0))
		}
	}
	return inOrder(keys)
}

func copied(l []api.Pair) []api.Pair {
	var out []api.Pair
	for _, p := range l {
		out = append(out, api.Pair{Key: p.Key, Value: slices.Clone(p.Value)})
	}
	return out
}

// By the library, and not by pairs.Same, so that a fault there shows.
func alike(a, b []api.Pair) bool {
	return slices.EqualFunc(a, b, func(p, q api.Pair) bool {
		return p.Key == q.Key && bytes.Equal(p.Value, q.Value)
	})
}

func text(l []api.Pair) string {
	var b strings.Builder
	for _, p := range l {
		fmt.Fprintf(&b, "%x: %x\n", p.Key, p.Value)
	}
	return b.String()
}

func brief(l []api.Pair) string {
	return fmt.Sprintf("%d pairs %s", len(l), text(l[:min(len(l), 3)]))
}

func wantMap(t *testing.T, what string, got []api.Pair, e api.Errno, want []api.Pair) {
	t.Helper()
	if e != api.OK || !alike(got, want) {
		t.Errorf("%s: error %d, %s, want %s", what, e, brief(got), brief(want))
	}
}

func wantError(t *testing.T, what string, got []api.Pair, e, want api.Errno) {
	t.Helper()
	if e != want || len(got) != 0 {
		t.Errorf("%s: error %d and %d pairs, want error %d and none", what, e, len(got), want)
	}
}

// The map with v for k, one pair after the other, and not by halves.
func withPair(l []api.Pair, k api.Digest, v []byte) []api.Pair {
	out := append(withoutPair(l, k), api.Pair{Key: k, Value: v})
	slices.SortFunc(out, func(p, q api.Pair) int { return bytes.Compare(p.Key[:], q.Key[:]) })
	return out
}

func withoutPair(l []api.Pair, k api.Digest) []api.Pair {
	var out []api.Pair
	for _, p := range l {
		if p.Key != k {
			out = append(out, p)
		}
	}
	return out
}

func valueIn(l []api.Pair, k api.Digest) ([]byte, bool) {
	for _, p := range l {
		if p.Key == k {
			return p.Value, true
		}
	}
	return nil, false
}

// P5.1: Check.

func TestCheckOfMaps(t *testing.T) {
	for _, l := range maps() {
		if e := pairs.Check(l); e != api.OK {
			t.Errorf("a map is refused, error %d: %s", e, brief(l))
		}
	}
	for n := 1; n <= api.MaxValue; n++ {
		if e := pairs.Check([]api.Pair{{Key: key(3), Value: counted(n)}}); e != api.OK {
			t.Errorf("a value of %d bytes is refused, error %d", n, e)
		}
	}
}

func TestCheckOfKeysThatPartAtEachBit(t *testing.T) {
	for _, k := range []api.Digest{{}, filled(0x55), hashed(1)} {
		for i := range api.Depth {
			l := mapOf([]api.Digest{k, turned(k, i)})
			if e := pairs.Check(l); e != api.OK {
				t.Errorf("keys that part at bit %d: error %d", i, e)
			}
			slices.Reverse(l)
			if e := pairs.Check(l); e != api.ErrBad {
				t.Errorf("keys that part at bit %d, the wrong way round: error %d", i, e)
			}
		}
	}
}

func TestCheckRefusesWhatIsNoMap(t *testing.T) {
	for what, l := range wrongMaps() {
		if e := pairs.Check(l); e != api.ErrBad {
			t.Errorf("Check of %s: error %d", what, e)
		}
	}
}

// P5.1: Get.

func TestGetOfExamples(t *testing.T) {
	l := []api.Pair{pair(3, "a"), pair(5, "b"), pair(9, "c")}
	if v, is := pairs.Get(l, key(9)); !is || string(v) != "c" {
		t.Errorf("Get 9: %q, %t", v, is)
	}
	if v, is := pairs.Get(l, key(4)); is || len(v) != 0 {
		t.Errorf("Get 4: %q, %t", v, is)
	}
}

func TestGetTellsTheValue(t *testing.T) {
	for _, l := range maps() {
		for _, k := range keysAbout(l) {
			want, has := valueIn(l, k)
			if v, is := pairs.Get(l, k); is != has || !bytes.Equal(v, want) {
				t.Errorf("Get %x of %s: %x, %t", k, brief(l), v, is)
			}
		}
	}
}

func TestGetOfWhatIsNoMap(t *testing.T) {
	for what, l := range wrongMaps() {
		for _, k := range []api.Digest{l[0].Key, l[len(l)-1].Key, l[len(l)/2].Key, {}, filled(255)} {
			if v, is := pairs.Get(l, k); is || len(v) != 0 {
				t.Errorf("Get of %s: %x, %t", what, v, is)
			}
		}
	}
}

// P5.1: Same.

// Lists that are all unlike one another, maps or not.
func unlikeLists() [][]api.Pair {
	return [][]api.Pair{
		nil, {{}}, {{}, {}}, {pair(3, "a")}, {pair(3, "b")}, {pair(4, "a")}, {pair(3, "")}, {pair(3, "aa")},
		{{Key: api.Digest{0: 3, 31: 1}, Value: []byte("a")}}, {{Key: key(3), Value: counted(5000)}},
		{pair(3, "a"), pair(9, "c")}, {pair(9, "c"), pair(3, "a")}, {pair(3, "a"), pair(9, "d")},
		{pair(3, "a"), pair(3, "a")}, {pair(3, "a"), pair(8, "c")}, {pair(2, "a"), pair(9, "c")},
		{pair(3, "b"), pair(9, "c")}, {pair(3, "a"), pair(9, "")}, {pair(3, "c"), pair(9, "a")},
		{pair(3, "a"), pair(9, "c"), {}}, hashedMap(1), hashedMap(512), hashedMap(513), twinnedMap(600),
	}
}

func TestSameTellsUnlikeLists(t *testing.T) {
	all := unlikeLists()
	for i := range all {
		for j := range all {
			if pairs.Same(all[i], copied(all[j])) != (i == j) {
				t.Errorf("%s and %s: same is %t", brief(all[i]), brief(all[j]), i != j)
			}
		}
	}
}

func TestSameHoldsNilAndEmptyTheSame(t *testing.T) {
	if !pairs.Same(nil, []api.Pair{}) || !pairs.Same([]api.Pair{}, nil) {
		t.Error("no pairs, and a list that is nil, are the same")
	}
	a, b := []api.Pair{{Key: key(3)}}, []api.Pair{{Key: key(3), Value: []byte{}}}
	if !pairs.Same(a, b) || !pairs.Same(b, a) {
		t.Error("no value, and a value that is nil, are the same")
	}
}

func TestSameLooksAtEachPair(t *testing.T) {
	for at := range 40 {
		a, b, c := hashedMap(40), hashedMap(40), hashedMap(40)
		b[at].Key = turned(b[at].Key, 255)
		c[at].Value = append(slices.Clone(c[at].Value), 0)
		if pairs.Same(a, b) || pairs.Same(b, a) || pairs.Same(a, c) || pairs.Same(c, a) {
			t.Errorf("pair %d is unlike, but told to be the same", at)
		}
	}
}

// P5.1: Twin.

func TestTwinIsTheSame(t *testing.T) {
	all := append(maps(), unlikeLists()...)
	for _, l := range wrongMaps() {
		all = append(all, l)
	}
	for _, l := range all {
		if twin := pairs.Twin(l); !alike(twin, l) {
			t.Errorf("the twin of %s is %s", brief(l), brief(twin))
		}
	}
}

// P5.2: Put.

func TestPutOfExamples(t *testing.T) {
	l := []api.Pair{pair(3, "a"), pair(9, "c")}
	got, e := pairs.Put(l, key(5), []byte("b"))
	wantMap(t, "Put 5", got, e, []api.Pair{pair(3, "a"), pair(5, "b"), pair(9, "c")})
	got, e = pairs.Put(l, key(3), []byte("x"))
	wantMap(t, "Put 3", got, e, []api.Pair{pair(3, "x"), pair(9, "c")})
	got, e = pairs.Put(nil, key(3), []byte("a"))
	wantMap(t, "Put in none", got, e, []api.Pair{pair(3, "a")})
}

func TestPutAnywhere(t *testing.T) {
	for _, l := range maps() {
		for i, k := range keysAbout(l) {
			v := counted(1 + i%api.MaxValue)
			got, e := pairs.Put(l, k, v)
			if _, has := valueIn(l, k); !has && len(l) == api.MaxPairs {
				wantError(t, "Put of the 513th pair", got, e, api.ErrFull)
				continue
			}
			wantMap(t, "Put", got, e, withPair(l, k, v))
		}
	}
}

func TestPutRefusesWrongValues(t *testing.T) {
	for _, l := range [][]api.Pair{nil, {pair(3, "a")}, hashedMap(9), hashedMap(api.MaxPairs)} {
		for _, v := range [][]byte{nil, {}, counted(api.MaxValue + 1), counted(300), counted(5000)} {
			for _, k := range keysAbout(l) {
				got, e := pairs.Put(l, k, v)
				wantError(t, "Put of a wrong value, also where it is full", got, e, api.ErrBad)
			}
		}
	}
}

func TestPutRefusesThe513thPair(t *testing.T) {
	for _, l := range [][]api.Pair{hashedMap(api.MaxPairs), twinnedMap(api.MaxPairs)} {
		got, e := pairs.Put(l, hashed(-1), []byte("x"))
		wantError(t, "Put of the 513th pair", got, e, api.ErrFull)
		for _, at := range []int{0, 1, 255, 256, 511} {
			got, e := pairs.Put(l, l[at].Key, []byte("x"))
			wantMap(t, "Put in the place of one of 512", got, e, withPair(l, l[at].Key, []byte("x")))
		}
		got, e = pairs.Put(withoutPair(l, l[9].Key), l[9].Key, l[9].Value)
		wantMap(t, "Put of the 512th pair", got, e, l)
	}
}

func TestPutInWhatIsNoMap(t *testing.T) {
	for what, l := range wrongMaps() {
		for _, k := range []api.Digest{l[0].Key, l[len(l)-1].Key, key(77)} {
			got, e := pairs.Put(l, k, []byte("x"))
			wantError(t, "Put in "+what, got, e, api.ErrBad)
			got, e = pairs.Put(l, k, nil)
			wantError(t, "Put of nothing in "+what, got, e, api.ErrBad)
		}
	}
}

// P5.2: Drop.

func TestDropOfExamples(t *testing.T) {
	l := []api.Pair{pair(3, "a"), pair(5, "b"), pair(9, "c")}
	got, e := pairs.Drop(l, key(4))
	wantError(t, "Drop 4", got, e, api.ErrNone)
	got, e = pairs.Drop(l, key(5))
	wantMap(t, "Drop 5", got, e, []api.Pair{pair(3, "a"), pair(9, "c")})
	got, e = pairs.Drop([]api.Pair{pair(3, "a")}, key(3))
	wantMap(t, "Drop of all", got, e, nil)
	got, e = pairs.Drop(nil, key(3))
	wantError(t, "Drop of none", got, e, api.ErrNone)
}

func TestDropAnywhere(t *testing.T) {
	for _, l := range maps() {
		for _, k := range keysAbout(l) {
			got, e := pairs.Drop(l, k)
			if _, has := valueIn(l, k); !has {
				wantError(t, "Drop of what is not there", got, e, api.ErrNone)
				continue
			}
			wantMap(t, "Drop", got, e, withoutPair(l, k))
		}
	}
}

func TestDropInWhatIsNoMap(t *testing.T) {
	for what, l := range wrongMaps() {
		for _, k := range []api.Digest{l[0].Key, l[len(l)-1].Key, key(77)} {
			got, e := pairs.Drop(l, k)
			wantError(t, "Drop in "+what, got, e, api.ErrBad)
		}
	}
}

// P5.2: Root.

// What is digested of a kind and parts, by the library.
func digested(kind byte, parts ...[]byte) api.Digest {
	b := []byte{kind}
	for _, p := range parts {
		b = append(binary.BigEndian.AppendUint32(b, uint32(len(p))), p...)
	}
	return sha256.Sum256(b)
}

// By definition: pairs are parted by their bit, one after the other.
func rootOf(l []api.Pair, depth int) api.Digest {
	if len(l) == 0 {
		return digested(0)
	}
	if len(l) == 1 {
		return digested(1, l[0].Key[:], l[0].Value)
	}
	var halves [2][]api.Pair
	for _, p := range l {
		bit := p.Key[depth/8] >> (7 - depth%8) & 1
		halves[bit] = append(halves[bit], p)
	}
	left, right := rootOf(halves[0], depth+1), rootOf(halves[1], depth+1)
	return digested(2, left[:], right[:])
}

func TestRootOfExamples(t *testing.T) {
	three, other := key(3), key(200)
	a, b := tag.Of(1, three[:], []byte("a")), tag.Of(1, other[:], []byte("b"))
	for _, c := range []struct {
		l    []api.Pair
		want api.Digest
	}{
		{nil, tag.None()},
		{[]api.Pair{}, tag.None()},
		{[]api.Pair{pair(3, "a")}, a},
		{[]api.Pair{pair(3, "a"), pair(200, "b")}, tag.Of(2, a[:], b[:])},
	} {
		if d, e := pairs.Root(c.l); e != api.OK || d != c.want {
			t.Errorf("Root of %s: %x, error %d", brief(c.l), d, e)
		}
	}
}

// Two keys of which one alone stands on a side leave forks of nothing and the rest above them.
func TestRootOfForksOfNothing(t *testing.T) {
	none := tag.None()
	for _, k := range []api.Digest{{}, filled(255), hashed(3)} {
		for i := range api.Depth {
			l := mapOf([]api.Digest{k, turned(k, i)})
			a := tag.Of(1, l[0].Key[:], l[0].Value)
			b := tag.Of(1, l[1].Key[:], l[1].Value)
			want := tag.Of(2, a[:], b[:])
			for at := i - 1; at >= 0; at-- {
				if k[at/8]>>(7-at%8)&1 == 0 {
					want = tag.Of(2, want[:], none[:])
				} else {
					want = tag.Of(2, none[:], want[:])
				}
			}
			if d, e := pairs.Root(l); e != api.OK || d != want {
				t.Errorf("keys that part at bit %d: %x, error %d", i, d, e)
			}
		}
	}
}

func TestRootOfMaps(t *testing.T) {
	for _, l := range maps() {
		if d, e := pairs.Root(l); e != api.OK || d != rootOf(l, 0) {
			t.Errorf("Root of %s: %x, error %d", brief(l), d, e)
		}
	}
}

func TestRootOfWhatIsNoMap(t *testing.T) {
	for what, l := range wrongMaps() {
		if d, e := pairs.Root(l); e != api.ErrBad || d != (api.Digest{}) {
			t.Errorf("Root of %s: %x, error %d", what, d, e)
		}
	}
}

// P5.3.

// What stands behind a list's end, or a value's, is its caller's: neither read nor changed.
func roomy(l []api.Pair) []api.Pair {
	out := make([]api.Pair, 0, len(l)+3)
	for _, p := range l {
		v := append(make([]byte, 0, len(p.Value)+8), p.Value...)
		copy(v[len(v):cap(v)], "beyond!!")
		out = append(out, api.Pair{Key: p.Key, Value: v})
	}
	beyond := out[len(out):cap(out)]
	for i := range beyond {
		beyond[i] = pair(byte(100+i), "beyond")
	}
	return out
}

func wholly(l []api.Pair) string {
	var b strings.Builder
	for _, p := range l[:cap(l)] {
		fmt.Fprintf(&b, "%x %d: %x\n", p.Key, len(p.Value), p.Value[:cap(p.Value)])
	}
	return b.String()
}

func TestWhatIsHandedInStays(t *testing.T) {
	all := append(maps(), unlikeLists()...)
	for _, l := range wrongMaps() {
		all = append(all, l)
	}
	for _, l := range all {
		in := roomy(l)
		before := wholly(in)
		pairs.Check(in)
		pairs.Root(in)
		pairs.Twin(in)
		pairs.Same(in, in)
		keys := []api.Digest{{}, filled(255), key(4), hashed(-1), hashed(-2)}
		for _, p := range l[:min(len(l), 5)] {
			keys = append(keys, p.Key)
		}
		for _, k := range keys {
			v := roomy([]api.Pair{pair(1, "value")})
			handed := wholly(v)
			pairs.Get(in, k)
			pairs.Put(in, k, v[0].Value)
			pairs.Drop(in, k)
			if wholly(v) != handed {
				t.Error("a value that was handed in is changed")
			}
		}
		if wholly(in) != before {
			t.Errorf("what was handed in is changed: %s", brief(l))
		}
	}
}

// Also what an append to b would write to.
func overwriteBytes(b []byte) {
	b = b[:cap(b)]
	for i := range b {
		b[i] ^= 0xff
	}
}

func overwrite(l []api.Pair) {
	for _, p := range l {
		overwriteBytes(p.Value)
	}
	l = l[:cap(l)]
	for i := range l {
		l[i] = pair(99, "overwritten")
	}
}

// Each answer is overwritten, and changes neither what was handed in nor another answer;
// and of one answer no value changes another one.
func sharesNone(t *testing.T, what string, in []api.Pair, call func() []api.Pair) {
	t.Helper()
	before := wholly(in)
	first, second, third := call(), call(), call()
	want := copied(first)
	overwrite(first)
	if !alike(second, want) || wholly(in) != before {
		t.Errorf("%s: what is answered is not new memory", what)
	}
	for i := range second {
		overwriteBytes(second[i].Value)
		if !alike(second[i+1:], want[i+1:]) {
			t.Errorf("%s: two values of one answer share memory", what)
			break
		}
	}
	overwrite(in)
	if !alike(third, want) {
		t.Errorf("%s: what is answered changes with what was handed in", what)
	}
}

// All values are one piece of memory, as a caller may have them.
func oneValue(n int) []api.Pair {
	v := []byte("one for all")
	l := hashedMap(n)
	for i := range l {
		l[i].Value = v
	}
	return l
}

func TestListsAreNewMemory(t *testing.T) {
	for _, made := range []func() []api.Pair{
		func() []api.Pair { return roomy(nil) },
		func() []api.Pair { return roomy([]api.Pair{pair(3, "a")}) },
		func() []api.Pair { return roomy(hashedMap(9)) },
		func() []api.Pair { return roomy(hashedMap(511)) },
		func() []api.Pair { return oneValue(9) },
	} {
		in := made()
		sharesNone(t, "Twin", in, func() []api.Pair { return pairs.Twin(in) })
		for _, k := range []api.Digest{{}, filled(255), hashed(-1), hashed(0), hashed(8)} {
			in := made()
			v := []byte("value")
			put := func() []api.Pair {
				l, _ := pairs.Put(in, k, v)
				return l
			}
			sharesNone(t, "Put", in, put)
			in = made()
			sharesNone(t, "Drop", in, func() []api.Pair {
				l, _ := pairs.Drop(in, k)
				return l
			})
		}
	}
}

func TestListsThatAreNoMapsHaveTwinsInNewMemory(t *testing.T) {
	for what, l := range wrongMaps() {
		in := roomy(l[:min(len(l), 20)])
		sharesNone(t, "Twin of "+what, in, func() []api.Pair { return pairs.Twin(in) })
	}
}

func TestValuesAreNewMemory(t *testing.T) {
	l := roomy([]api.Pair{pair(3, "a"), pair(9, "c")})
	v, _ := pairs.Get(l, key(9))
	w, _ := pairs.Get(l, key(9))
	before := wholly(l)
	overwriteBytes(v)
	if string(w) != "c" || wholly(l) != before {
		t.Error("a value that is got is not new memory")
	}

	v = []byte("value")
	put, _ := pairs.Put(l, key(5), v)
	overwriteBytes(put[1].Value)
	if string(v) != "value" {
		t.Error("a value that is put is not new memory")
	}
	put, _ = pairs.Put(l, key(5), v)
	overwriteBytes(v)
	if string(put[1].Value) != "value" {
		t.Error("a value that is put changes with what was handed in")
	}
}

// A value of the map itself may be put for another key of it.
func TestValueOfTheMapIsPut(t *testing.T) {
	l := []api.Pair{pair(3, "a"), pair(9, "c")}
	put, e := pairs.Put(l, key(5), l[1].Value)
	wantMap(t, "Put of a value of the map", put, e, []api.Pair{pair(3, "a"), pair(5, "c"), pair(9, "c")})
	overwriteBytes(put[1].Value)
	if string(put[2].Value) != "c" || string(l[1].Value) != "c" {
		t.Error("two values share memory")
	}
}

func TestNothingIsKept(t *testing.T) {
	l := hashedMap(100)
	root, _ := pairs.Root(l)
	pairs.Put(l, hashed(-1), []byte("x"))
	pairs.Drop(l, hashed(1))
	pairs.Root(hashedMap(50))
	if again, e := pairs.Root(l); e != api.OK || again != root {
		t.Error("a call's answer hangs on the calls ahead of it")
	}
}

// P5.4.

func TestWhatIsPutIsGotAndDropped(t *testing.T) {
	for _, l := range maps() {
		for i, k := range keysAbout(l)[:min(40, len(keysAbout(l)))] {
			v := counted(1 + i%api.MaxValue)
			put, e := pairs.Put(l, k, v)
			if e == api.ErrFull {
				continue
			}
			if got, is := pairs.Get(put, k); !is || !bytes.Equal(got, v) {
				t.Errorf("%x was put: %x, %t", k, got, is)
			}
			othersStay(t, put, l, k)
			dropped, e := pairs.Drop(put, k)
			wantMap(t, "put and dropped", dropped, e, withoutPair(l, k))
			if got, is := pairs.Get(dropped, k); is || len(got) != 0 {
				t.Errorf("%x was dropped: %x, %t", k, got, is)
			}
		}
	}
}

func othersStay(t *testing.T, put, l []api.Pair, k api.Digest) {
	t.Helper()
	for at, p := range l {
		if at%13 != 0 || p.Key == k {
			continue
		}
		if v, is := pairs.Get(put, p.Key); !is || !bytes.Equal(v, p.Value) {
			t.Errorf("%x was put, and %x has %x, %t", k, p.Key, v, is)
		}
	}
}

// An order by the library, from a seed that is told, so that each run is the same.
func shuffled(l []api.Pair, seed int64) []api.Pair {
	out := slices.Clone(l)
	rand.New(rand.NewSource(seed)).Shuffle(len(out), func(i, j int) { out[i], out[j] = out[j], out[i] })
	return out
}

func putAll(t *testing.T, l, order []api.Pair) []api.Pair {
	t.Helper()
	for _, p := range order {
		next, e := pairs.Put(l, p.Key, p.Value)
		if e != api.OK {
			t.Fatalf("Put: error %d", e)
		}
		l = next
	}
	return l
}

func TestAnyOrderMakesOneMap(t *testing.T) {
	for _, l := range maps() {
		for seed := range int64(3) {
			if len(l) > 120 && seed > 0 {
				break
			}
			got := putAll(t, nil, shuffled(l, seed))
			wantMap(t, "pairs put in any order", got, api.OK, l)
			if d, e := pairs.Root(got); e != api.OK || d != rootOf(l, 0) {
				t.Errorf("pairs put in any order: root %x, error %d", d, e)
			}
		}
	}
}

func TestAllOrdersOfFew(t *testing.T) {
	l := []api.Pair{pair(3, "a"), pair(5, "b"), pair(9, "c"), pair(200, "d"), pair(201, "e")}
	for order := range 5 * 4 * 3 * 2 {
		rest, some := slices.Clone(l), []api.Pair(nil)
		for n := len(l); n > 0; n-- {
			some = append(some, rest[order%n])
			rest = slices.Delete(rest, order%n, order%n+1)
			order /= n
		}
		wantMap(t, "pairs put in one order of all", putAll(t, nil, some), api.OK, l)
	}
}

// Puts and drops on end, held against a map of the language.
func TestManyPutsAndDrops(t *testing.T) {
	random := rand.New(rand.NewSource(5))
	has := map[api.Digest][]byte{}
	var l []api.Pair
	for range 3000 {
		k := hashed(random.Intn(60))
		if random.Intn(3) == 0 {
			next, e := pairs.Drop(l, k)
			if _, is := has[k]; !is {
				wantError(t, "Drop", next, e, api.ErrNone)
				continue
			}
			delete(has, k)
			l = next
		} else {
			v := counted(1 + random.Intn(api.MaxValue))
			has[k] = v
			l, _ = pairs.Put(l, k, v)
		}
		wantMap(t, "many puts and drops", l, pairs.Check(l), fromTable(has))
	}
}

func fromTable(has map[api.Digest][]byte) []api.Pair {
	var l []api.Pair
	for k, v := range has {
		l = append(l, api.Pair{Key: k, Value: v})
	}
	slices.SortFunc(l, func(p, q api.Pair) int { return bytes.Compare(p.Key[:], q.Key[:]) })
	return l
}

func TestUnlikeMapsHaveUnlikeRoots(t *testing.T) {
	seen := map[api.Digest]string{}
	for _, l := range maps() {
		d, _ := pairs.Root(l)
		own := text(l)
		if other, ok := seen[d]; ok && other != own {
			t.Errorf("unlike maps have one root: %.100s and %.100s", other, own)
		}
		seen[d] = own
	}
}
