package verify_test

import (
	"bytes"
	"crypto/sha256"
	"encoding/binary"
	"fmt"
	"math/rand"
	"slices"
	"testing"

	"beadroll/api"
	"beadroll/pairs"
	"beadroll/proof"
	"beadroll/tag"
	"beadroll/tree"
	"beadroll/verify"
)

// A key whose first byte is told, all others 0, as in the chapters' examples.
func key(first byte) api.Digest {
	return api.Digest{first}
}

func filled(b byte) api.Digest {
	return api.Digest(bytes.Repeat([]byte{b}, 32))
}

func hashed(i int) api.Digest {
	return sha256.Sum256([]byte(fmt.Sprint("key ", i)))
}

func sides(n int) []api.Digest {
	var l []api.Digest
	for i := range n {
		l = append(l, hashed(-100-i))
	}
	return l
}

// No byte is like the one beside it, so that one that is left out or turned round shows.
func counted(n int) []byte {
	b := make([]byte, n)
	for i := range b {
		b[i] = byte(i*7 + 3)
	}
	return b
}

func bitOf(k api.Digest, i int) byte {
	return k[i/8] >> (7 - i%8) & 1
}

func turned(k api.Digest, i int) api.Digest {
	k[i/8] ^= 128 >> (i % 8)
	return k
}

func own(k api.Digest, v string, l []api.Digest) api.Proof {
	return api.Proof{Key: k, End: api.EndOwn, Value: []byte(v), Sides: l}
}

func other(k, at api.Digest, v string, l []api.Digest) api.Proof {
	return api.Proof{Key: k, End: api.EndOther, Other: at, Value: []byte(v), Sides: l}
}

func none(k api.Digest, l []api.Digest) api.Proof {
	return api.Proof{Key: k, Sides: l}
}

// By the library, and not by tag, so that a fault there shows.
func digested(kind uint8, parts ...[]byte) []byte {
	b := []byte{kind}
	for _, p := range parts {
		b = append(binary.BigEndian.AppendUint32(b, uint32(len(p))), p...)
	}
	return b
}

// What the words say is digested from the place i on, from there down.
func inputsFrom(p api.Proof, i int) [][]byte {
	if i == len(p.Sides) {
		switch p.End {
		case api.EndOwn:
			return [][]byte{digested(1, p.Key[:], p.Value)}
		case api.EndOther:
			return [][]byte{digested(1, p.Other[:], p.Value)}
		}
		return [][]byte{digested(0)}
	}
	rest := inputsFrom(p, i+1)
	side, behind := p.Sides[i], sha256.Sum256(rest[0])
	at := digested(2, behind[:], side[:])
	if bitOf(p.Key, i) == 1 {
		at = digested(2, side[:], behind[:])
	}
	return slices.Insert(rest, 0, at)
}

func rootOf(p api.Proof) api.Digest {
	return sha256.Sum256(inputsFrom(p, 0)[0])
}

func sameInputs(a, b [][]byte) bool {
	return slices.EqualFunc(a, b, bytes.Equal)
}

func brief(p api.Proof) string {
	return fmt.Sprintf("of %x: end %d, other %x, value %x, %d sides", p.Key, p.End, p.Other, p.Value, len(p.Sides))
}

func read(t *testing.T, text string) api.Digest {
	t.Helper()
	var b []byte
	if _, e := fmt.Sscanf(text, "%x", &b); e != nil || len(b) != 32 {
		t.Fatalf("%q is no digest's text", text)
	}
	return api.Digest(b)
}

// The chapter's examples.

func TestInputsOfNothing(t *testing.T) {
	got, e := verify.Inputs(api.Proof{})
	if e != api.OK || !sameInputs(got, [][]byte{{0}}) {
		t.Errorf("Inputs of EndNone without sides: %v, error %d", got, e)
	}
}

func TestRootsOfExamples(t *testing.T) {
	s, three, greater := hashed(5), key(3), key(200)
	a, b := tag.Of(1, three[:], []byte("a")), tag.Of(1, greater[:], []byte("a"))
	for _, c := range []struct {
		p    api.Proof
		want api.Digest
	}{
		{api.Proof{}, tag.None()},
		{none(three, nil), tag.None()},
		{own(three, "a", nil), a},
		{own(three, "a", []api.Digest{s}), tag.Of(2, a[:], s[:])},
		{own(greater, "a", []api.Digest{s}), tag.Of(2, s[:], b[:])},
	} {
		wantRoot(t, c.p, c.want)
	}
}

func wantRoot(t *testing.T, p api.Proof, want api.Digest) {
	t.Helper()
	if got, e := verify.Root(p); e != api.OK || got != want {
		t.Errorf("Root of a proof %s: %x, error %d, want %x", brief(p), got, e, want)
	}
	if !verify.Fits(p, want) {
		t.Errorf("a proof %s does not fit its root", brief(p))
	}
}

// Worked out by another program, once, so that nothing of this one's is asked.
func TestRootsThatAreKnown(t *testing.T) {
	var s, u api.Digest
	for i := range s {
		s[i], u[i] = byte(i), byte(32+i)
	}
	for text, p := range map[string]api.Proof{
		"6e340b9cffb37a989ca544e6bb780a2c78901d3fb33738768511a30617afa01d": none(key(3), nil),
		"d2d275ec20becafa0096ea5fd864db43be43614204734a6eefd16449688e79f2": own(key(3), "a", []api.Digest{s}),
		"2ef8629f7bcc281a3917e51d146664ab22de36fb9e857d1d94749b6d5b6a644d": own(key(200), "a", []api.Digest{s}),
		"3b6bd2f493e7937023391ba9c218d6ed91fc3103ee534601a86d660b69192738": none(key(64), []api.Digest{s, u}),
		"2eec7d77730812e62ef55522c0fb7772151ffc6438b580f800d24482e05272cc": other(key(64), key(65), "xyz", []api.Digest{s, u}),
	} {
		wantRoot(t, p, read(t, text))
	}
}

// P8.1, of what may be.

// Proofs of each end, of all counts of sides, and of values up to the edges.
func goodProofs() []api.Proof {
	good := []api.Proof{
		{}, {Value: []byte{}, Sides: []api.Digest{}}, none(key(3), []api.Digest{{}}),
		own(api.Digest{}, "a", nil), other(api.Digest{}, key(4), "a", nil), other(key(4), api.Digest{}, "a", nil),
		none(key(3), slices.Repeat(sides(1), 3)), own(filled(255), "a", slices.Repeat(sides(1), 256)),
	}
	for n := 1; n <= api.MaxValue; n++ {
		v := string(counted(n))
		good = append(good, own(key(3), v, nil), other(key(3), key(4), v, sides(n%6)))
	}
	for n := range api.Depth + 1 {
		for _, k := range []api.Digest{{}, filled(255), hashed(n)} {
			good = append(good, none(k, sides(n)), own(k, "a", sides(n)))
			if n < api.Depth {
				// It shares just as many bits as there are sides; and more.
				good = append(good, other(k, turned(k, n), "a", sides(n)), other(k, turned(k, 255), "a", sides(n)))
			}
		}
	}
	return good
}

func TestInputsOfEachEnd(t *testing.T) {
	for _, p := range goodProofs() {
		got, e := verify.Inputs(p)
		if want := inputsFrom(p, 0); e != api.OK || !sameInputs(got, want) {
			t.Errorf("Inputs of a proof %s: %d, error %d, want %d", brief(p), len(got), e, len(want))
		}
		wantRoot(t, p, rootOf(p))
	}
}

// The key's bit at each place, and at none but that, tells which of the two is first.
func TestInputsGoByEachBit(t *testing.T) {
	for i := range api.Depth {
		for _, p := range []api.Proof{
			own(turned(api.Digest{}, i), "a", sides(256)), own(turned(filled(255), i), "a", sides(256)),
			none(turned(hashed(1), i), sides(i+1)), other(turned(hashed(1), i), turned(turned(hashed(1), i), 255), "a", sides(min(i+1, 255))),
		} {
			got, e := verify.Inputs(p)
			if e != api.OK || !sameInputs(got, inputsFrom(p, 0)) {
				t.Errorf("bit %d: Inputs of a proof %s: %d, error %d", i, brief(p), len(got), e)
			}
		}
	}
}

// A root that is another one by a bit is none of the proof's.
func TestFitsNoOtherRoot(t *testing.T) {
	for _, p := range []api.Proof{
		{}, none(key(3), sides(4)), own(key(3), "a", nil), own(key(200), "a", sides(2)),
		other(key(3), key(4), "a", sides(3)), own(hashed(1), "a", sides(256)),
	} {
		root := rootOf(p)
		for i := range api.Depth {
			if verify.Fits(p, turned(root, i)) {
				t.Errorf("a proof %s fits its root with bit %d turned", brief(p), i)
			}
		}
		for _, d := range append([]api.Digest{{}, filled(255), p.Key, hashed(1)}, p.Sides...) {
			if verify.Fits(p, d) {
				t.Errorf("a proof %s fits %x", brief(p), d)
			}
		}
	}
}

// Each is another proof than p, that may be, and of another root.
func unlike(p api.Proof) []api.Proof {
	var all []api.Proof
	for i := range p.Sides {
		q := proof.Twin(p)
		q.Sides[i] = turned(q.Sides[i], i%256)
		r := proof.Twin(p)
		r.Key = turned(r.Key, i)
		if r.End == api.EndOther {
			r.Other = turned(r.Other, i)
		}
		all = append(all, q, r)
	}
	if p.End == api.EndNone {
		return append(all, own(p.Key, "a", p.Sides))
	}
	v := p.Value
	for i := range v {
		w := slices.Clone(v)
		w[i]++
		all = append(all, api.Proof{Key: p.Key, End: p.End, Other: p.Other, Value: w, Sides: p.Sides})
	}
	more := string(v) + "\x00"
	if p.End == api.EndOther {
		return append(all, none(p.Key, p.Sides), own(p.Key, string(v), p.Sides), other(p.Key, p.Other, more, p.Sides))
	}
	return append(all, none(p.Key, p.Sides), other(p.Key, turned(p.Key, 255), string(v), p.Sides), own(p.Key, more, p.Sides))
}

func TestUnlikeProofsDoNotFit(t *testing.T) {
	for _, p := range []api.Proof{
		none(key(3), sides(4)), own(key(3), "a", sides(1)), own(hashed(1), string(counted(63)), sides(250)),
		other(key(3), key(4), "abc", sides(5)), other(hashed(1), turned(hashed(1), 254), "abc", sides(254)),
		none(hashed(2), sides(256)), own(hashed(2), "a", nil), other(hashed(2), hashed(3), "a", nil),
	} {
		for _, q := range unlike(p) {
			if e := proof.Check(q); e != api.OK {
				t.Fatalf("error %d of a proof %s", e, brief(q))
			}
			if verify.Fits(q, rootOf(p)) {
				t.Errorf("a proof %s fits the root of one %s", brief(q), brief(p))
			}
		}
	}
}

// Of a road that ends at nothing, or at another key's leaf, all keys that it leads to
// have one root: their bits behind it are not gone by.
func TestKeysOfOneRoadHaveOneRoot(t *testing.T) {
	for n := range 255 {
		k := hashed(n)
		at := turned(k, 255)
		a, b := none(k, sides(n)), other(k, at, "a", sides(n))
		c, d := none(turned(k, n), sides(n)), other(turned(k, n), at, "a", sides(n))
		if !verify.Fits(c, rootOf(a)) || !verify.Fits(d, rootOf(b)) {
			t.Errorf("%d sides: two keys of one road have unlike roots", n)
		}
		if verify.Fits(own(turned(k, n), "a", sides(n)), rootOf(own(k, "a", sides(n)))) {
			t.Errorf("%d sides: another key's own leaf fits", n)
		}
		// At the leaf's own key, the same road tells that it is there.
		if !verify.Fits(own(at, "a", sides(n)), rootOf(b)) {
			t.Errorf("%d sides: the leaf's own proof does not fit", n)
		}
	}
}

// P8.1, of what may not be.

// Each is right but for one thing.
func wrongProofs() map[string]api.Proof {
	wrong := map[string]api.Proof{
		"none, with a value":     {Key: key(3), Value: []byte("a")},
		"none, with another":     {Key: key(3), Other: key(4)},
		"none, its last bit":     {Key: key(3), Other: api.Digest{31: 1}},
		"own, with another":      {Key: key(3), End: api.EndOwn, Other: key(4), Value: []byte("a")},
		"own, with its own":      {Key: key(3), End: api.EndOwn, Other: key(3), Value: []byte("a")},
		"own, without a value":   own(key(3), "", nil),
		"own, an empty value":    {Key: key(3), End: api.EndOwn, Value: []byte{}},
		"own, 65 bytes":          own(key(3), string(counted(65)), nil),
		"own, 5000 bytes":        own(key(3), string(counted(5000)), sides(2)),
		"other, which is its":    other(key(3), key(3), "a", nil),
		"other, both zero":       other(api.Digest{}, api.Digest{}, "a", nil),
		"other, its own, 256":    other(key(3), key(3), "a", sides(256)),
		"other, without a value": other(key(3), key(4), "", nil),
		"other, 65 bytes":        other(key(3), key(4), string(counted(65)), nil),
		"other, aside at once":   other(key(3), key(200), "a", sides(1)),
	}
	for _, end := range []uint8{3, 4, 128, 254, 255} {
		wrong[fmt.Sprint("as none, end ", end)] = api.Proof{Key: key(3), End: end}
		wrong[fmt.Sprint("as own, end ", end)] = api.Proof{Key: key(3), End: end, Value: []byte("a"), Sides: sides(1)}
		wrong[fmt.Sprint("as other, end ", end)] = api.Proof{Key: key(3), End: end, Other: key(4), Value: []byte("a")}
	}
	for _, n := range []int{257, 258, 5000} {
		wrong[fmt.Sprint("none, sides ", n)] = none(key(3), sides(n))
		wrong[fmt.Sprint("own, sides ", n)] = own(key(3), "a", sides(n))
		wrong[fmt.Sprint("other, sides ", n)] = other(key(3), turned(key(3), 255), "a", sides(n))
	}
	for i := range api.Depth {
		wrong[fmt.Sprint("a side more than shared, ", i)] = other(hashed(i), turned(hashed(i), i), "a", sides(i+1))
	}
	return wrong
}

// What p's root would be, if it might be: by each of the ends.
func rootsAnyhow(p api.Proof) []api.Digest {
	all := []api.Digest{{}, tag.None()}
	p.Sides = p.Sides[:min(len(p.Sides), api.Depth)]
	for _, end := range []uint8{api.EndNone, api.EndOwn, api.EndOther} {
		p.End = end
		all = append(all, rootOf(p))
	}
	return all
}

func TestWhatIsNoProofIsRefused(t *testing.T) {
	for what, p := range wrongProofs() {
		if got, e := verify.Inputs(p); e != api.ErrBad || len(got) != 0 {
			t.Errorf("%s: error %d, and %d inputs", what, e, len(got))
		}
		if got, e := verify.Root(p); e != api.ErrBad || got != (api.Digest{}) {
			t.Errorf("%s: error %d, and the root %x", what, e, got)
		}
		for _, root := range rootsAnyhow(p) {
			if verify.Fits(p, root) {
				t.Errorf("%s: it fits %x", what, root)
			}
		}
	}
}

// P8.3.

func mapOf(keys []api.Digest) []api.Pair {
	keys = slices.Clone(keys)
	// Of bytes whose highest bit is the first one, what is ahead is what is less.
	slices.SortFunc(keys, func(a, b api.Digest) int { return bytes.Compare(a[:], b[:]) })
	var l []api.Pair
	for _, k := range slices.Compact(keys) {
		// Each value is its key's own, and of all lengths that may be.
		d := sha256.Sum256(k[:])
		l = append(l, api.Pair{Key: k, Value: slices.Repeat(d[:], 2)[:1+int(d[0])%api.MaxValue]})
	}
	return l
}

func hashedMap(n int) []api.Pair {
	var keys []api.Digest
	for i := range n {
		keys = append(keys, hashed(i))
	}
	return mapOf(keys)
}

// Keys of which each parts from the first one at another bit: the deepest map.
func combMap(k api.Digest) []api.Pair {
	keys := []api.Digest{k}
	for i := range api.Depth {
		keys = append(keys, turned(k, i))
	}
	return mapOf(keys)
}

func maps() [][]api.Pair {
	all := [][]api.Pair{nil, combMap(api.Digest{}), combMap(filled(255)), combMap(hashed(7))}
	for _, n := range []int{1, 2, 3, 4, 5, 9, 31, 100, api.MaxPairs} {
		all = append(all, hashedMap(n))
	}
	for _, k := range []api.Digest{{}, filled(255), hashed(1)} {
		for _, i := range []int{0, 1, 7, 8, 100, 254, 255} {
			all = append(all, mapOf([]api.Digest{k, turned(k, i)}))
		}
	}
	return all
}

func parted(l []api.Pair, d int) [2][]api.Pair {
	var halves [2][]api.Pair
	for _, p := range l {
		b := bitOf(p.Key, d)
		halves[b] = append(halves[b], p)
	}
	return halves
}

// By chapter 6's words, and not by tree.Put, that would put many nodes more.
func lay(nodes *[]api.Node, l []api.Pair, d int) int {
	if len(l) == 0 {
		return 0
	}
	at := api.Node{Leaf: true, Key: l[0].Key, Value: l[0].Value}
	if len(l) > 1 {
		halves := parted(l, d)
		left := lay(nodes, halves[0], d+1)
		at = api.Node{Left: left, Right: lay(nodes, halves[1], d+1)}
	}
	*nodes = append(*nodes, at)
	return len(*nodes)
}

func laid(l []api.Pair) api.Tree {
	t := api.Tree{}
	t.Root = lay(&t.Nodes, l, 0)
	return t
}

// Some keys of the map, those beside them, and some that lie anywhere.
func keysAbout(l []api.Pair) []api.Digest {
	keys := []api.Digest{{}, filled(255), key(1), key(128), hashed(-1), hashed(-2)}
	for i := 0; i < len(l); i += 1 + len(l)/12 {
		k := l[i].Key
		keys = append(keys, k, turned(k, 255), turned(k, i%256), turned(k, 0), turned(k, 254))
	}
	return keys
}

func made(t *testing.T, x api.Tree, k api.Digest) api.Proof {
	t.Helper()
	p, e := proof.Make(x, k)
	if e != api.OK {
		t.Fatalf("Make of %x: error %d", k, e)
	}
	return p
}

func sumOf(t *testing.T, x api.Tree) api.Digest {
	t.Helper()
	sum, e := tree.Sum(x)
	if e != api.OK {
		t.Fatalf("Sum: error %d", e)
	}
	return sum
}

func TestWhatIsMadeFitsTheSum(t *testing.T) {
	for _, l := range maps() {
		x := laid(l)
		root, e := pairs.Root(l)
		if e != api.OK || root != sumOf(t, x) {
			t.Fatalf("%d pairs: the map's root is not the tree's sum, error %d", len(l), e)
		}
		for _, k := range keysAbout(l) {
			wantRoot(t, made(t, x, k), root)
		}
	}
}

func TestEachProofOfAMapFits(t *testing.T) {
	l := hashedMap(60)
	x := laid(l)
	for _, p := range l {
		got := made(t, x, p.Key)
		if v, is := proof.Told(got); !is || !bytes.Equal(v, p.Value) {
			t.Errorf("Told of %x: %x, %t", p.Key, v, is)
		}
		wantRoot(t, got, sumOf(t, x))
	}
}

// A proof fits the sum of its own version, and that of no other one.
func TestWhatIsMadeFitsItsVersionAlone(t *testing.T) {
	x := api.Tree{}
	roots, l := []int{0}, hashedMap(12)
	for _, i := range rand.New(rand.NewSource(1)).Perm(len(l)) {
		y, e := tree.Put(x, l[i].Key, l[i].Value)
		if e != api.OK {
			t.Fatalf("Put: error %d", e)
		}
		x, roots = y, append(roots, y.Root)
	}
	for _, mine := range roots {
		for _, another := range roots {
			y, z := x, x
			y.Root, z.Root = mine, another
			for _, k := range keysAbout(l) {
				if got := verify.Fits(made(t, y, k), sumOf(t, z)); got != (mine == another) {
					t.Errorf("the proof at %d of %x fits the sum at %d: %t", mine, k, another, got)
				}
			}
		}
	}
}

// Where the next one's digest stands is told by the key's bit: ahead of the Side, or behind it.
func TestInputsHoldTheDigestOfTheNext(t *testing.T) {
	all := goodProofs()
	for _, l := range maps() {
		all = append(all, made(t, laid(l), hashed(1)))
	}
	for _, p := range all {
		list, e := verify.Inputs(p)
		if e != api.OK || len(list) != len(p.Sides)+1 {
			t.Fatalf("Inputs of a proof %s: %d, error %d", brief(p), len(list), e)
		}
		for i, side := range p.Sides {
			next := sha256.Sum256(list[i+1])
			at := 5 + 36*int(bitOf(p.Key, i))
			if len(list[i]) != 73 || !bytes.Equal(list[i][at:at+32], next[:]) || !bytes.Contains(list[i], side[:]) {
				t.Errorf("input %d of a proof %s has not the next one's digest", i, brief(p))
			}
		}
	}
}

// P8.2.

// What stands behind a list's end, or a value's, is its caller's: neither read nor changed.
func roomy(p api.Proof) api.Proof {
	v := append(make([]byte, 0, len(p.Value)+8), p.Value...)
	copy(v[len(v):cap(v)], "beyond!!")
	l := append(make([]api.Digest, 0, len(p.Sides)+3), p.Sides...)
	copy(l[len(l):cap(l)], []api.Digest{hashed(91), hashed(92), hashed(93)})
	p.Value, p.Sides = v, l
	return p
}

func wholly(p api.Proof) string {
	return fmt.Sprintf("%x %d %x %d: %x %d: %x", p.Key, p.End, p.Other,
		len(p.Value), p.Value[:cap(p.Value)], len(p.Sides), p.Sides[:cap(p.Sides)])
}

// Also what an append to it would write to.
func overwrite(b []byte) {
	b = b[:cap(b)]
	for i := range b {
		b[i] ^= 0xff
	}
}

func overwriteProof(p api.Proof) {
	overwrite(p.Value)
	l := p.Sides[:cap(p.Sides)]
	for i := range l {
		l[i] = filled(0xee)
	}
}

func TestWhatIsHandedInStays(t *testing.T) {
	all := goodProofs()
	for _, p := range wrongProofs() {
		all = append(all, p)
	}
	for _, p := range all {
		in := roomy(p)
		before := wholly(in)
		verify.Inputs(in)
		verify.Root(in)
		verify.Fits(in, tag.None())
		if wholly(in) != before {
			t.Errorf("a proof %s is changed", brief(p))
		}
	}
}

// Each input is overwritten in turn, and changes neither the proof, nor another input,
// nor what is answered behind it; nor is it changed with the proof.
func TestInputsAreNewMemory(t *testing.T) {
	for _, p := range []api.Proof{
		{}, none(key(3), sides(3)), own(key(3), string(counted(64)), sides(4)),
		other(key(3), key(4), "abc", sides(5)), own(hashed(1), "a", sides(256)),
	} {
		in, want := roomy(p), inputsFrom(p, 0)
		before := wholly(in)
		first, _ := verify.Inputs(in)
		second, _ := verify.Inputs(in)
		for i := range first {
			overwrite(first[i])
			if !sameInputs(first[i+1:], want[i+1:]) || !sameInputs(second, want) || wholly(in) != before {
				t.Fatalf("input %d of a proof %s is not new memory", i, brief(p))
			}
		}
		clear(first[:cap(first)])
		third, e := verify.Inputs(in)
		if e != api.OK || !sameInputs(second, want) || !sameInputs(third, want) {
			t.Errorf("two answers of a proof %s have one list", brief(p))
		}
		overwriteProof(in)
		if !sameInputs(second, want) {
			t.Errorf("the inputs of a proof %s change with it", brief(p))
		}
	}
}

// A call's answer hangs on what it is handed alone.
func TestNothingIsKept(t *testing.T) {
	p := own(key(3), "a", sides(3))
	wantRoot(t, p, rootOf(p))
	verify.Root(own(key(3), "b", sides(3)))
	verify.Root(none(filled(255), sides(256)))
	verify.Inputs(own(key(3), "", nil))
	wantRoot(t, p, rootOf(p))
}
