package clash_test

import (
	"bytes"
	"crypto/sha256"
	"encoding/binary"
	"fmt"
	"slices"
	"testing"

	"beadroll/api"
	"beadroll/clash"
	"beadroll/proof"
	"beadroll/tag"
	"beadroll/tree"
)

// A key whose first byte is told, all others 0, as in the chapters' examples.
func key(first byte) api.Digest {
	return api.Digest{first}
}

func filled(b byte) api.Digest {
	return api.Digest(bytes.Repeat([]byte{b}, 32))
}

func hashed(i int) api.Digest {
	return sha256.Sum256([]byte(fmt.Sprint("key ", i)))
}

func sides(n int) []api.Digest {
	var l []api.Digest
	for i := range n {
		l = append(l, hashed(-100-i))
	}
	return l
}

// No byte is like the one beside it, so that one that is left out or turned round shows.
func counted(n int) []byte {
	b := make([]byte, n)
	for i := range b {
		b[i] = byte(i*7 + 3)
	}
	return b
}

func bitOf(k api.Digest, i int) byte {
	return k[i/8] >> (7 - i%8) & 1
}

func turned(k api.Digest, i int) api.Digest {
	k[i/8] ^= 128 >> (i % 8)
	return k
}

func own(k api.Digest, v string, l []api.Digest) api.Proof {
	return api.Proof{Key: k, End: api.EndOwn, Value: []byte(v), Sides: l}
}

func other(k, at api.Digest, v string, l []api.Digest) api.Proof {
	return api.Proof{Key: k, End: api.EndOther, Other: at, Value: []byte(v), Sides: l}
}

func none(k api.Digest, l []api.Digest) api.Proof {
	return api.Proof{Key: k, Sides: l}
}

// By the library, and not by tag, so that a fault there shows.
func digested(kind uint8, parts ...[]byte) []byte {
	b := []byte{kind}
	for _, p := range parts {
		b = append(binary.BigEndian.AppendUint32(b, uint32(len(p))), p...)
	}
	return b
}

// What the words say is digested from the place i on, from there down.
func inputsFrom(p api.Proof, i int) [][]byte {
	if i == len(p.Sides) {
		switch p.End {
		case api.EndOwn:
			return [][]byte{digested(1, p.Key[:], p.Value)}
		case api.EndOther:
			return [][]byte{digested(1, p.Other[:], p.Value)}
		}
		return [][]byte{digested(0)}
	}
	rest := inputsFrom(p, i+1)
	side, behind := p.Sides[i], digestOf(rest[0])
	at := digested(2, behind[:], side[:])
	if bitOf(p.Key, i) == 1 {
		at = digested(2, side[:], behind[:])
	}
	return slices.Insert(rest, 0, at)
}

func rootOf(p api.Proof) api.Digest {
	return digestOf(inputsFrom(p, 0)[0])
}

// Of two proofs that may be.
func tellUnlike(a, b api.Proof) bool {
	if a.Key != b.Key {
		return false
	}
	if a.End != api.EndOwn || b.End != api.EndOwn {
		return a.End == api.EndOwn || b.End == api.EndOwn
	}
	return string(a.Value) != string(b.Value)
}

// found is what the words say is found of two proofs that tell unlike things.
type found struct {
	x, y  []byte
	place int
}

func (f found) endsBoth() bool {
	return f.x[0] != 2 && f.y[0] != 2
}

func (f found) endsOne() bool {
	return f.x[0] != 2 && f.y[0] == 2 || f.x[0] == 2 && f.y[0] != 2
}

func find(a, b api.Proof) found {
	l, m := inputsFrom(a, 0), inputsFrom(b, 0)
	i := 0
	for bytes.Equal(l[i], m[i]) {
		i++
	}
	return found{l[i], m[i], i}
}

func brief(p api.Proof) string {
	return fmt.Sprintf("of %x: end %d, other %x, value %x, %d sides", p.Key, p.End, p.Other, p.Value, len(p.Sides))
}

func wantSeek(t *testing.T, a, b api.Proof, want found) {
	t.Helper()
	x, y, e := clash.Seek(a, b)
	if e != api.OK || !bytes.Equal(x, want.x) || !bytes.Equal(y, want.y) {
		t.Errorf("Seek of %s and %s: %x, %x, error %d, want %x, %x", brief(a), brief(b), x, y, e, want.x, want.y)
	}
}

func wantSeekError(t *testing.T, a, b api.Proof, want api.Errno) {
	t.Helper()
	x, y, e := clash.Seek(a, b)
	if e != want || len(x) != 0 || len(y) != 0 {
		t.Errorf("Seek of %s and %s: %x, %x, error %d, want error %d", brief(a), brief(b), x, y, e, want)
	}
}

func wantOfError(t *testing.T, x api.Tree, p api.Proof, want api.Errno) {
	t.Helper()
	a, b, e := clash.Of(x, p)
	if e != want || len(a) != 0 || len(b) != 0 {
		t.Errorf("Of a tree and %s: %x, %x, error %d, want error %d", brief(p), a, b, e, want)
	}
}

// The chapter's examples.

func TestSeekOfNothingAndALeaf(t *testing.T) {
	k := api.Digest{}
	wantSeek(t, api.Proof{}, own(k, "a", nil), found{x: []byte{0}, y: tag.Bytes(1, k[:], []byte("a"))})
	wantSeek(t, own(k, "a", nil), api.Proof{}, found{x: tag.Bytes(1, k[:], []byte("a")), y: []byte{0}})
}

func TestSeekOfOneProofTwiceAndOfUnlikeKeys(t *testing.T) {
	p := own(key(3), "a", sides(2))
	wantSeekError(t, p, p, api.ErrArg)
	wantSeekError(t, p, own(key(4), "b", sides(2)), api.ErrArg)
	wantSeekError(t, none(key(4), nil), p, api.ErrArg)
}

func TestOfATreeAndItsOwnProof(t *testing.T) {
	x := laid(mapOf([]api.Digest{key(3), key(200)}))
	for _, k := range []api.Digest{key(3), key(200), key(4), key(201)} {
		wantOfError(t, x, made(t, x, k), api.ErrNone)
	}
	wantOfError(t, x, none(key(3), nil), api.ErrNone)
	wantOfError(t, api.Tree{}, api.Proof{}, api.ErrNone)
}

// P9.1.

// Proofs of one key that may be: of all ends, of many counts of sides, some with a side
// that is another one.
func proofsOf(k api.Digest) []api.Proof {
	near := turned(k, 255)
	var all []api.Proof
	for _, n := range []int{0, 1, 2, 3, 7, 8, 31} {
		l := sides(n)
		all = append(all, none(k, l), own(k, "a", l), own(k, "b", l), own(k, "ab", l), own(k, "a\x00", l),
			own(k, string(counted(64)), l), other(k, near, "a", l), other(k, turned(k, n), "b", l))
		if n > 0 {
			m := sides(n)
			m[n/2] = hashed(n)
			all = append(all, own(k, "a", m), own(k, "c", m), none(k, m))
		}
	}
	return append(all, own(k, "a", sides(256)), own(k, "d", sides(256)), none(k, sides(256)), other(k, near, "a", sides(255)))
}

// tally counts where what is found stands.
type tally struct {
	places             map[int]int
	endsBoth, endsOne  int
	forks, roots, many int
}

func (c *tally) add(f found, oneRoot bool) {
	c.many++
	c.places[f.place]++
	switch {
	case f.endsBoth():
		c.endsBoth++
	case f.endsOne():
		c.endsOne++
	default:
		c.forks++
	}
	if oneRoot {
		c.roots++
	}
}

// Where no digest is met twice, all that differs further down shows in the first input.
func (c *tally) isEnough(t *testing.T) {
	t.Helper()
	if c.endsBoth == 0 || c.endsOne == 0 || c.forks == 0 {
		t.Errorf("not all kinds of places are met: %+v", c)
	}
	if weak && (c.roots == 0 || len(c.places) < 10) {
		t.Errorf("too few clashes, or places of them, are met: %+v", c)
	}
}

func TestSeekFindsTheFirstUnlikeInputs(t *testing.T) {
	count := tally{places: map[int]int{}}
	for _, k := range []api.Digest{{}, filled(255), hashed(1)} {
		all := proofsOf(k)
		for _, a := range all {
			for _, b := range all {
				if !tellUnlike(a, b) {
					wantSeekError(t, a, b, api.ErrArg)
					continue
				}
				want := find(a, b)
				wantSeek(t, a, b, want)
				count.add(want, rootOf(a) == rootOf(b))
			}
		}
	}
	count.isEnough(t)
}

// Each tells the same as the one beside it, or nothing, or is of another key.
func TestSeekOfProofsThatTellNothingUnlike(t *testing.T) {
	k := key(3)
	for _, c := range [][2]api.Proof{
		{none(k, nil), none(k, nil)}, {none(k, nil), none(k, sides(5))},
		{none(k, nil), {Key: k, Value: []byte{}, Sides: []api.Digest{}}},
		{none(k, nil), other(k, key(4), "a", nil)}, {none(k, sides(3)), other(k, key(4), "a", sides(4))},
		{other(k, key(4), "a", nil), other(k, key(4), "b", nil)}, {other(k, key(4), "a", nil), other(k, key(5), "a", nil)},
		{own(k, "a", nil), own(k, "a", sides(1))}, {own(k, "a", sides(255)), own(k, "a", sides(256))},
		{own(k, "a", nil), own(turned(k, 255), "b", nil)}, {own(k, "a", nil), none(turned(k, 0), nil)},
		{own(k, "a", nil), other(turned(k, 100), k, "b", nil)}, {other(key(4), k, "a", nil), own(k, "b", nil)},
	} {
		wantSeekError(t, c[0], c[1], api.ErrArg)
		wantSeekError(t, c[1], c[0], api.ErrArg)
	}
}

// Each of the key's bits is asked for.
func TestSeekOfKeysUnlikeByABit(t *testing.T) {
	for i := range api.Depth {
		for _, k := range []api.Digest{{}, hashed(i)} {
			wantSeekError(t, own(k, "a", sides(1)), own(turned(k, i), "b", sides(1)), api.ErrArg)
			wantSeekError(t, own(k, "a", nil), none(turned(k, i), nil), api.ErrArg)
		}
	}
}

// And each of the value's bytes.
func TestSeekOfValuesUnlikeByAByte(t *testing.T) {
	for n := 1; n <= api.MaxValue; n++ {
		v := counted(n)
		w := slices.Clone(v)
		w[n/2] ^= 1
		a, b, c := own(key(3), string(v), sides(2)), own(key(3), string(w), sides(2)), own(key(3), string(v[:n/2+1]), sides(2))
		wantSeek(t, a, b, find(a, b))
		wantSeek(t, b, c, find(b, c))
	}
}

// Each is right but for one thing.
func wrongProofs() map[string]api.Proof {
	wrong := map[string]api.Proof{
		"none, with a value":     {Key: key(3), Value: []byte("a")},
		"none, with another":     {Key: key(3), Other: key(4)},
		"own, with another":      {Key: key(3), End: api.EndOwn, Other: key(4), Value: []byte("a")},
		"own, with its own":      {Key: key(3), End: api.EndOwn, Other: key(3), Value: []byte("a")},
		"own, without a value":   own(key(3), "", nil),
		"own, 65 bytes":          own(key(3), string(counted(65)), nil),
		"other, which is its":    other(key(3), key(3), "a", nil),
		"other, without a value": other(key(3), key(4), "", nil),
		"other, 65 bytes":        other(key(3), key(4), string(counted(65)), nil),
		"other, aside at once":   other(key(3), key(200), "a", sides(1)),
	}
	for _, end := range []uint8{3, 4, 128, 255} {
		wrong[fmt.Sprint("as none, end ", end)] = api.Proof{Key: key(3), End: end}
		wrong[fmt.Sprint("as own, end ", end)] = api.Proof{Key: key(3), End: end, Value: []byte("a"), Sides: sides(1)}
	}
	for _, n := range []int{257, 5000} {
		wrong[fmt.Sprint("none, sides ", n)] = none(key(3), sides(n))
		wrong[fmt.Sprint("own, sides ", n)] = own(key(3), "a", sides(n))
		wrong[fmt.Sprint("other, sides ", n)] = other(key(3), turned(key(3), 255), "a", sides(n))
	}
	return wrong
}

// Also where ErrArg would apply, as that is named behind it.
func TestSeekOfWhatIsNoProof(t *testing.T) {
	for _, w := range wrongProofs() {
		wantSeekError(t, w, w, api.ErrBad)
		for _, p := range []api.Proof{
			none(key(3), nil), own(key(3), "a", sides(1)), own(key(3), "b", nil), other(key(3), key(4), "a", nil), none(key(9), nil),
		} {
			wantSeekError(t, w, p, api.ErrBad)
			wantSeekError(t, p, w, api.ErrBad)
		}
	}
}

// P9.2.

func mapOf(keys []api.Digest) []api.Pair {
	keys = slices.Clone(keys)
	// Of bytes whose highest bit is the first one, what is ahead is what is less.
	slices.SortFunc(keys, func(a, b api.Digest) int { return bytes.Compare(a[:], b[:]) })
	var l []api.Pair
	for _, k := range slices.Compact(keys) {
		// Each value is its key's own, and of all lengths that may be.
		d := sha256.Sum256(k[:])
		l = append(l, api.Pair{Key: k, Value: slices.Repeat(d[:], 2)[:1+int(d[0])%api.MaxValue]})
	}
	return l
}

func hashedMap(n int) []api.Pair {
	var keys []api.Digest
	for i := range n {
		keys = append(keys, hashed(i))
	}
	return mapOf(keys)
}

// Keys of which each parts from the first one at another bit: the deepest map.
func combMap(k api.Digest) []api.Pair {
	keys := []api.Digest{k}
	for i := range api.Depth {
		keys = append(keys, turned(k, i))
	}
	return mapOf(keys)
}

func maps() [][]api.Pair {
	all := [][]api.Pair{nil, combMap(hashed(7))}
	for _, n := range []int{1, 2, 3, 5, 9, 31, 100} {
		all = append(all, hashedMap(n))
	}
	for _, i := range []int{0, 1, 7, 8, 30} {
		all = append(all, mapOf([]api.Digest{hashed(1), turned(hashed(1), i)}))
	}
	return all
}

func parted(l []api.Pair, d int) [2][]api.Pair {
	var halves [2][]api.Pair
	for _, p := range l {
		b := bitOf(p.Key, d)
		halves[b] = append(halves[b], p)
	}
	return halves
}

// By chapter 6's words, and not by tree.Put, that would put many nodes more.
func lay(nodes *[]api.Node, l []api.Pair, d int) int {
	if len(l) == 0 {
		return 0
	}
	at := api.Node{Leaf: true, Key: l[0].Key, Value: l[0].Value}
	if len(l) > 1 {
		halves := parted(l, d)
		left := lay(nodes, halves[0], d+1)
		at = api.Node{Left: left, Right: lay(nodes, halves[1], d+1)}
	}
	*nodes = append(*nodes, at)
	return len(*nodes)
}

func laid(l []api.Pair) api.Tree {
	t := api.Tree{}
	t.Root = lay(&t.Nodes, l, 0)
	return t
}

func made(t *testing.T, x api.Tree, k api.Digest) api.Proof {
	t.Helper()
	p, e := proof.Make(x, k)
	if e != api.OK {
		t.Fatalf("Make of %x: error %d", k, e)
	}
	return p
}

// Some keys of the map, those beside them, and some that lie anywhere.
func keysAbout(l []api.Pair) []api.Digest {
	keys := []api.Digest{{}, filled(255), hashed(-1)}
	for i := 0; i < len(l); i += 1 + len(l)/4 {
		k := l[i].Key
		keys = append(keys, k, turned(k, 255), turned(k, i%256))
	}
	return keys
}

// Proofs of p's key that may be, p with one thing or more changed: where digests are weak,
// some of them fit what p fits.
func others(p api.Proof) []api.Proof {
	k := p.Key
	all := []api.Proof{none(k, nil), own(k, "a", nil), other(k, turned(k, 255), "b", nil)}
	for i := range 12 {
		l := slices.Clone(p.Sides)
		if i%2 > 0 && len(l) > 0 {
			l[i*7%len(l)] = key(byte(i % 4))
		}
		if i > 7 {
			l = l[:len(l)*i/12]
		}
		v := string(counted(i + 1))
		all = append(all, own(k, v, l), none(k, l))
		if len(p.Value) > 0 {
			all = append(all, own(k, string(p.Value), l), own(k, string(p.Value)[1:]+v, l))
		}
		if len(l) < api.Depth {
			all = append(all, other(k, turned(k, 255), v, l))
		}
	}
	return slices.DeleteFunc(all, func(q api.Proof) bool { return len(q.Value) > api.MaxValue })
}

func wantOf(t *testing.T, x api.Tree, p api.Proof, want found) {
	t.Helper()
	a, b, e := clash.Of(x, p)
	if e != api.OK || !bytes.Equal(a, want.x) || !bytes.Equal(b, want.y) {
		t.Errorf("Of a tree and %s: %x, %x, error %d, want %x, %x", brief(p), a, b, e, want.x, want.y)
	}
}

// What the words say of a tree, whose own proof is told, and p, that may be.
func holdOf(t *testing.T, x api.Tree, mine, p api.Proof, count *tally) {
	t.Helper()
	if rootOf(p) != rootOf(mine) || !tellUnlike(mine, p) {
		wantOfError(t, x, p, api.ErrNone)
		return
	}
	want := find(mine, p)
	wantOf(t, x, p, want)
	count.add(want, true)
}

func TestOfFindsWhatFitsAndTellsOtherwise(t *testing.T) {
	count := tally{places: map[int]int{}}
	for _, l := range maps() {
		x := laid(l)
		for _, k := range keysAbout(l) {
			mine := made(t, x, k)
			for _, p := range append(others(mine), mine) {
				holdOf(t, x, mine, p, &count)
			}
		}
	}
	// Of digests that are none but SHA-256's nobody knows two unlike texts with one.
	if !weak && count.many > 0 {
		t.Errorf("a clash of SHA-256: %+v", count)
	}
	if weak {
		count.isEnough(t)
	}
}

// A proof of an older version tells what was there: it fits that one's sum alone.
func TestOfGoesByTheVersion(t *testing.T) {
	count := tally{places: map[int]int{}}
	l := hashedMap(9)
	x := api.Tree{}
	roots := []int{0}
	for _, p := range l {
		y, e := tree.Put(x, p.Key, p.Value)
		if e != api.OK {
			t.Fatalf("Put: error %d", e)
		}
		x, roots = y, append(roots, y.Root)
	}
	for _, one := range roots {
		for _, another := range roots {
			y, z := x, x
			y.Root, z.Root = one, another
			for _, p := range l {
				holdOf(t, y, made(t, y, p.Key), made(t, z, p.Key), &count)
			}
		}
	}
	if (count.many > 0) != weak {
		t.Errorf("what is found of versions: %+v", count)
	}
}

func wrongTrees() map[string]api.Tree {
	leaf := api.Node{Leaf: true, Key: key(3), Value: []byte("a")}
	return map[string]api.Tree{
		"a root below 0":         {Root: -1},
		"a root of no node":      {Nodes: []api.Node{leaf}, Root: 2},
		"a leaf without a value": {Nodes: []api.Node{{Leaf: true, Key: key(3)}}, Root: 1},
		"a fork of nothing":      {Nodes: []api.Node{{}}, Root: 1},
		"a fork of one leaf":     {Nodes: []api.Node{leaf, {Left: 1}}, Root: 2},
		"a fork of itself":       {Nodes: []api.Node{{Left: 1, Right: 1}}, Root: 1},
		"a leaf led to wrongly":  {Nodes: []api.Node{leaf, {Leaf: true, Key: key(4), Value: []byte("b")}, {Left: 1, Right: 2}}, Root: 3},
		"a wrong node beside":    {Nodes: []api.Node{leaf, {}}, Root: 1},
		"a node too many":        {Nodes: slices.Repeat([]api.Node{leaf}, api.MaxNodes+1), Root: 1},
	}
}

// Also where ErrNone would apply, as that is named behind it.
func TestOfWhatMayNotBe(t *testing.T) {
	good := laid(mapOf([]api.Digest{key(3), key(200)}))
	for _, w := range wrongProofs() {
		wantOfError(t, good, w, api.ErrBad)
		wantOfError(t, api.Tree{}, w, api.ErrBad)
	}
	for what, x := range wrongTrees() {
		if tree.Check(x) != api.ErrBad {
			t.Fatalf("%s: the tree may be", what)
		}
		for _, p := range []api.Proof{{}, none(key(3), nil), own(key(3), "a", nil), own(key(3), "b", sides(1)), {End: 9}} {
			wantOfError(t, x, p, api.ErrBad)
		}
	}
}

// P9.4.

func TestWhatIsFoundIsAClash(t *testing.T) {
	many := 0
	for _, k := range []api.Digest{{}, filled(255), hashed(1)} {
		all := proofsOf(k)
		for _, a := range all {
			for _, b := range all {
				x, y, e := clash.Seek(a, b)
				if e != api.OK {
					continue
				}
				if bytes.Equal(x, y) {
					t.Errorf("what is found of %s and %s is the same", brief(a), brief(b))
				}
				if rootOf(a) == rootOf(b) {
					many++
					if digestOf(x) != digestOf(y) {
						t.Errorf("what is found of %s and %s has two digests", brief(a), brief(b))
					}
				}
			}
		}
	}
	if weak && many < 100 {
		t.Errorf("only %d clashes were found", many)
	}
}

func TestWhatIsFoundOfATreeIsAClash(t *testing.T) {
	many := 0
	for _, l := range maps() {
		x := laid(l)
		for _, k := range keysAbout(l) {
			for _, p := range others(made(t, x, k)) {
				a, b, e := clash.Of(x, p)
				if e != api.OK {
					continue
				}
				many++
				if bytes.Equal(a, b) || digestOf(a) != digestOf(b) {
					t.Errorf("what is found of a tree and %s is no clash: %x, %x", brief(p), a, b)
				}
			}
		}
	}
	if weak && many < 100 {
		t.Errorf("only %d clashes were found", many)
	}
}

// P9.3.

// What stands behind a list's end, or a value's, is its caller's: neither read nor changed.
func roomyBytes(v []byte) []byte {
	w := append(make([]byte, 0, len(v)+8), v...)
	copy(w[len(w):cap(w)], "beyond!!")
	return w
}

func roomy(p api.Proof) api.Proof {
	l := append(make([]api.Digest, 0, len(p.Sides)+3), p.Sides...)
	copy(l[len(l):cap(l)], []api.Digest{hashed(91), hashed(92), hashed(93)})
	p.Value, p.Sides = roomyBytes(p.Value), l
	return p
}

func roomyTree(x api.Tree) api.Tree {
	l := append(make([]api.Node, 0, len(x.Nodes)+2), x.Nodes...)
	for i := range l {
		l[i].Value = roomyBytes(l[i].Value)
	}
	copy(l[len(l):cap(l)], []api.Node{{Leaf: true, Key: key(9), Value: []byte("far")}, {Left: 1, Right: 2}})
	x.Nodes = l
	return x
}

func wholly(p api.Proof) string {
	return fmt.Sprintf("%x %d %x %d: %x %d: %x", p.Key, p.End, p.Other,
		len(p.Value), p.Value[:cap(p.Value)], len(p.Sides), p.Sides[:cap(p.Sides)])
}

func whollyTree(x api.Tree) string {
	s := fmt.Sprint(x.Root, len(x.Nodes))
	for _, at := range x.Nodes[:cap(x.Nodes)] {
		s += fmt.Sprintf(" %t %x %d: %x %d %d", at.Leaf, at.Key, len(at.Value), at.Value[:cap(at.Value)], at.Left, at.Right)
	}
	return s
}

// Also what an append to it would write to.
func overwrite(b []byte) {
	b = b[:cap(b)]
	for i := range b {
		b[i] ^= 0xff
	}
}

func TestWhatIsHandedToSeekStays(t *testing.T) {
	all := proofsOf(key(3))
	for _, w := range wrongProofs() {
		all = append(all, w)
	}
	for _, a := range all {
		for _, b := range all[:min(len(all), 24)] {
			in, beside := roomy(a), roomy(b)
			before := wholly(in) + wholly(beside)
			x, y, _ := clash.Seek(in, beside)
			want := slices.Clone(y)
			overwrite(x)
			if !bytes.Equal(y, want) {
				t.Errorf("of %s and %s one answer is the other one's memory", brief(a), brief(b))
			}
			overwrite(y)
			if wholly(in)+wholly(beside) != before {
				t.Errorf("%s or %s is changed", brief(a), brief(b))
			}
		}
	}
}

// What is answered stays as it is, whatever becomes of the proofs.
func TestWhatSeekAnswersStays(t *testing.T) {
	k := key(3)
	for _, c := range [][2]api.Proof{
		{none(k, nil), own(k, string(counted(64)), nil)}, {own(k, "a", nil), other(k, key(4), "b", nil)},
		{own(k, "a", sides(9)), own(k, "b", sides(9))}, {own(k, "a", nil), own(k, "b", sides(3))},
	} {
		a, b, want := roomy(c[0]), roomy(c[1]), find(c[0], c[1])
		x, y, _ := clash.Seek(a, b)
		for _, p := range []api.Proof{a, b} {
			overwrite(p.Value)
			clear(p.Sides[:cap(p.Sides)])
		}
		clash.Seek(none(k, sides(2)), own(k, "z", sides(4)))
		if !bytes.Equal(x, want.x) || !bytes.Equal(y, want.y) {
			t.Errorf("what is answered of %s and %s changes with them", brief(c[0]), brief(c[1]))
		}
	}
}

func TestWhatIsHandedToOfStays(t *testing.T) {
	for _, l := range [][]api.Pair{nil, hashedMap(1), hashedMap(9)} {
		plain := laid(l)
		for _, k := range keysAbout(l) {
			for _, p := range others(made(t, plain, k)) {
				x, in := roomyTree(plain), roomy(p)
				before := whollyTree(x) + wholly(in)
				a, b, _ := clash.Of(x, in)
				want := slices.Clone(b)
				overwrite(a)
				if !bytes.Equal(b, want) {
					t.Errorf("of a tree and %s one answer is the other one's memory", brief(p))
				}
				overwrite(b)
				if whollyTree(x)+wholly(in) != before {
					t.Errorf("a tree or %s is changed", brief(p))
				}
			}
		}
	}
	for _, wrong := range wrongTrees() {
		x := roomyTree(api.Tree{Nodes: wrong.Nodes[:min(len(wrong.Nodes), 3)], Root: wrong.Root})
		before := whollyTree(x)
		clash.Of(x, api.Proof{})
		if whollyTree(x) != before {
			t.Error("a wrong tree is changed")
		}
	}
}
