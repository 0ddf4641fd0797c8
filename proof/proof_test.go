package proof_test

import (
	"bytes"
	"crypto/sha256"
	"fmt"
	"math"
	"math/rand"
	"slices"
	"testing"

	"beadroll/api"
	"beadroll/proof"
	"beadroll/tag"
	"beadroll/tree"
)

// A key whose first byte is told, all others 0, as in the chapters' examples.
func key(first byte) api.Digest {
	return api.Digest{first}
}

func pair(first byte, v string) api.Pair {
	return api.Pair{Key: key(first), Value: []byte(v)}
}

// No byte is like the one beside it, so that one that is left out or turned round shows.
func counted(n int) []byte {
	b := make([]byte, n)
	for i := range b {
		b[i] = byte(i*7 + 3)
	}
	return b
}

func hashed(i int) api.Digest {
	return sha256.Sum256([]byte(fmt.Sprint("key ", i)))
}

func sides(n int) []api.Digest {
	var l []api.Digest
	for i := range n {
		l = append(l, hashed(-100-i))
	}
	return l
}

func bitOf(k api.Digest, i int) byte {
	return k[i/8] >> (7 - i%8) & 1
}

func turned(k api.Digest, i int) api.Digest {
	k[i/8] ^= 128 >> (i % 8)
	return k
}

func filled(b byte) api.Digest {
	return api.Digest(bytes.Repeat([]byte{b}, 32))
}

// Of bytes whose highest bit is the first one, what is ahead is what is less.
func inOrder(keys []api.Digest) []api.Digest {
	keys = slices.Clone(keys)
	slices.SortFunc(keys, func(a, b api.Digest) int { return bytes.Compare(a[:], b[:]) })
	return slices.Compact(keys)
}

// Each value is its key's own, and of all lengths that may be.
func valueOf(k api.Digest) []byte {
	d := sha256.Sum256(k[:])
	return slices.Repeat(d[:], 2)[:1+int(d[0])%api.MaxValue]
}

func mapOf(keys []api.Digest) []api.Pair {
	var l []api.Pair
	for _, k := range inOrder(keys) {
		l = append(l, api.Pair{Key: k, Value: valueOf(k)})
	}
	return l
}

func hashedMap(n int) []api.Pair {
	var keys []api.Digest
	for i := range n {
		keys = append(keys, hashed(i))
	}
	return mapOf(keys)
}

func partedAt(k api.Digest, i int) []api.Pair {
	return mapOf([]api.Digest{k, turned(k, i)})
}

// Keys of which each parts from the first one at another bit: the deepest map.
func combMap(k api.Digest) []api.Pair {
	keys := []api.Digest{k}
	for i := range api.Depth {
		keys = append(keys, turned(k, i))
	}
	return mapOf(keys)
}

func maps() [][]api.Pair {
	all := [][]api.Pair{
		nil, {pair(0, "x")}, {pair(255, "x")}, {{Value: counted(api.MaxValue)}},
		{pair(3, "a"), pair(5, "b")}, {pair(3, "a"), pair(200, "b")}, {pair(127, "a"), pair(128, "a")},
		mapOf([]api.Digest{{}, filled(255)}),
		combMap(api.Digest{}), combMap(filled(255)), combMap(hashed(7)),
	}
	for _, n := range []int{1, 2, 3, 4, 5, 9, 31, 100, api.MaxPairs, api.MaxPairs + 1} {
		all = append(all, hashedMap(n))
	}
	for _, i := range []int{0, 1, 7, 8, 100, 254, 255} {
		all = append(all, partedAt(api.Digest{}, i), partedAt(filled(255), i), partedAt(hashed(1), i))
	}
	return all
}

func parted(l []api.Pair, d int) [2][]api.Pair {
	var halves [2][]api.Pair
	for _, p := range l {
		b := bitOf(p.Key, d)
		halves[b] = append(halves[b], p)
	}
	return halves
}

func leaf(p api.Pair) api.Node {
	return api.Node{Leaf: true, Key: p.Key, Value: slices.Clone(p.Value)}
}

// By chapter 6's words, and not by tree.Put; the right road is laid first, as the
// document leaves open which is.
func lay(nodes *[]api.Node, l []api.Pair, d int) int {
	if len(l) == 0 {
		return 0
	}
	at := api.Node{}
	if len(l) == 1 {
		at = leaf(l[0])
	} else {
		halves := parted(l, d)
		at.Right = lay(nodes, halves[1], d+1)
		at.Left = lay(nodes, halves[0], d+1)
	}
	*nodes = append(*nodes, at)
	return len(*nodes)
}

func laid(l []api.Pair) api.Tree {
	return laidBehind(nil, l)
}

// Behind other nodes, that Root does not lead to.
func laidBehind(ahead []api.Node, l []api.Pair) api.Tree {
	t := api.Tree{Nodes: slices.Clone(ahead)}
	t.Root = lay(&t.Nodes, l, 0)
	return t
}

func leaves(n int) []api.Node {
	return slices.Repeat([]api.Node{leaf(pair(77, "elsewhere"))}, n)
}

func example() api.Tree {
	return laid([]api.Pair{pair(3, "a"), pair(200, "b")})
}

// All keys of the map, those beside them, and some that lie anywhere.
func keysAbout(l []api.Pair) []api.Digest {
	keys := []api.Digest{{}, filled(255), key(1), key(4), key(127), key(128), hashed(-1), hashed(-2)}
	for i := 0; i < len(l); i += 1 + len(l)/12 {
		k := l[i].Key
		keys = append(keys, k, turned(k, 255), turned(k, i%256), turned(k, 0), turned(k, 254))
	}
	return inOrder(keys)
}

func valueIn(l []api.Pair, k api.Digest) ([]byte, bool) {
	for _, p := range l {
		if p.Key == k {
			return p.Value, true
		}
	}
	return nil, false
}

// By chapter 5's words.
func rootOf(l []api.Pair, d int) api.Digest {
	switch len(l) {
	case 0:
		return tag.None()
	case 1:
		return tag.Of(1, l[0].Key[:], l[0].Value)
	}
	halves := parted(l, d)
	left, right := rootOf(halves[0], d+1), rootOf(halves[1], d+1)
	return tag.Of(2, left[:], right[:])
}

// The proof of k, by halves of pairs, and not by a tree's road.
func proofOf(l []api.Pair, k api.Digest) api.Proof {
	p := api.Proof{Key: k}
	for len(l) > 1 {
		d := len(p.Sides)
		halves := parted(l, d)
		b := bitOf(k, d)
		p.Sides = append(p.Sides, rootOf(halves[1-b], d+1))
		l = halves[b]
	}
	if len(l) == 0 {
		return p
	}
	p.Value = slices.Clone(l[0].Value)
	if l[0].Key == k {
		p.End = api.EndOwn
	} else {
		p.End, p.Other = api.EndOther, l[0].Key
	}
	return p
}

// By the library, and not by proof.Same, so that a fault there shows.
func alike(a, b api.Proof) bool {
	return a.Key == b.Key && a.End == b.End && a.Other == b.Other &&
		bytes.Equal(a.Value, b.Value) && slices.Equal(a.Sides, b.Sides)
}

func brief(p api.Proof) string {
	return fmt.Sprintf("of %x: end %d, other %x, value %x, %d sides", p.Key, p.End, p.Other, p.Value, len(p.Sides))
}

func wantProof(t *testing.T, what string, got api.Proof, e api.Errno, want api.Proof) {
	t.Helper()
	if e != api.OK || !alike(got, want) {
		t.Errorf("%s: error %d and a proof %s, want one %s", what, e, brief(got), brief(want))
	}
	if e := proof.Check(got); e != api.OK {
		t.Errorf("%s: what is made may not be: %s", what, brief(got))
	}
}

// The chapter's examples.

func TestExamples(t *testing.T) {
	three, other := key(3), key(200)
	a, b := tag.Of(1, three[:], []byte("a")), tag.Of(1, other[:], []byte("b"))
	for _, c := range []struct {
		t    api.Tree
		want api.Proof
		told string
		is   bool
	}{
		{example(), api.Proof{Key: three, End: api.EndOwn, Value: []byte("a"), Sides: []api.Digest{b}}, "a", true},
		{example(), api.Proof{Key: key(4), End: api.EndOther, Other: three, Value: []byte("a"), Sides: []api.Digest{b}}, "", false},
		{example(), api.Proof{Key: key(201), End: api.EndOther, Other: other, Value: []byte("b"), Sides: []api.Digest{a}}, "", false},
		{api.Tree{}, api.Proof{Key: three, End: api.EndNone}, "", false},
	} {
		got, e := proof.Make(c.t, c.want.Key)
		wantProof(t, fmt.Sprint("Make of ", c.want.Key[0]), got, e, c.want)
		if v, is := proof.Told(got); is != c.is || string(v) != c.told {
			t.Errorf("Told of that of %d: %q, %t", c.want.Key[0], v, is)
		}
	}
}

// P7.1, and P7.4: it tells what the tree has.

func wantTold(t *testing.T, what string, p api.Proof, l []api.Pair) {
	t.Helper()
	want, has := valueIn(l, p.Key)
	if v, is := proof.Told(p); is != has || !bytes.Equal(v, want) {
		t.Errorf("%s: Told of a proof %s: %x, %t", what, brief(p), v, is)
	}
}

func TestMakeOfEachEnd(t *testing.T) {
	for i, l := range maps() {
		x := laid(l)
		for _, k := range keysAbout(l) {
			what := fmt.Sprint("map ", i, " of ", len(l))
			got, e := proof.Make(x, k)
			wantProof(t, what, got, e, proofOf(l, k))
			wantTold(t, what, got, l)
		}
	}
}

// The only key, and one that parts from it at each of the bits.
func TestMakeBesideTheOnlyLeaf(t *testing.T) {
	for _, k := range []api.Digest{{}, filled(255), hashed(1)} {
		x := laid(mapOf([]api.Digest{k}))
		got, e := proof.Make(x, k)
		wantProof(t, "the only key", got, e, api.Proof{Key: k, End: api.EndOwn, Value: valueOf(k)})
		for i := range api.Depth {
			other := turned(k, i)
			got, e := proof.Make(x, other)
			wantProof(t, fmt.Sprint("parted at ", i), got, e, api.Proof{Key: other, End: api.EndOther, Other: k, Value: valueOf(k)})
		}
	}
}

// Two keys that part at the last bit, or the last but one: roads of as many sides as
// may be for each end.
func TestMakeOfTheDeepest(t *testing.T) {
	for _, k := range []api.Digest{{}, filled(255), hashed(1)} {
		for last, l := range map[int][]api.Pair{254: partedAt(k, 254), 255: partedAt(k, 255)} {
			x := laid(l)
			for _, p := range l {
				got, e := proof.Make(x, p.Key)
				wantProof(t, "the deepest own", got, e, proofOf(l, p.Key))
				if got.End != api.EndOwn || len(got.Sides) != last+1 {
					t.Errorf("the deepest own: %s", brief(got))
				}
			}
			for i := range last {
				got, e := proof.Make(x, turned(k, i))
				wantProof(t, "aside", got, e, proofOf(l, turned(k, i)))
				if got.End != api.EndNone || len(got.Sides) != i+1 {
					t.Errorf("aside at %d: %s", i, brief(got))
				}
			}
		}
		x := laid(partedAt(k, 254))
		got, e := proof.Make(x, turned(k, 255))
		wantProof(t, "the deepest other", got, e, proofOf(partedAt(k, 254), turned(k, 255)))
		if got.End != api.EndOther || got.Other != k || len(got.Sides) != 255 {
			t.Errorf("the deepest other: %s", brief(got))
		}
	}
}

// A side is of its own depth: beside a road there may be nothing, a leaf or a fork.
func TestMakeOfSidesOfNothing(t *testing.T) {
	got, e := proof.Make(laid(partedAt(api.Digest{}, 2)), api.Digest{})
	beside := turned(api.Digest{}, 2)
	want := []api.Digest{tag.None(), tag.None(), tag.Of(1, beside[:], valueOf(beside))}
	if e != api.OK || !slices.Equal(got.Sides, want) {
		t.Errorf("Sides: %x, error %d, want %x", got.Sides, e, want)
	}
}

func TestMakeOfEachValue(t *testing.T) {
	for n := 1; n <= api.MaxValue; n++ {
		x := laid([]api.Pair{{Key: key(3), Value: counted(n)}})
		got, e := proof.Make(x, key(3))
		wantProof(t, "own", got, e, api.Proof{Key: key(3), End: api.EndOwn, Value: counted(n)})
		got, e = proof.Make(x, key(4))
		wantProof(t, "other", got, e, api.Proof{Key: key(4), End: api.EndOther, Other: key(3), Value: counted(n)})
	}
}

// A leaf of the key that is all zero is none of nothing.
func TestMakeOfTheZeroKey(t *testing.T) {
	x := laid([]api.Pair{{Value: []byte("zero")}})
	got, e := proof.Make(x, api.Digest{})
	wantProof(t, "own", got, e, api.Proof{End: api.EndOwn, Value: []byte("zero")})
	got, e = proof.Make(x, key(3))
	wantProof(t, "other", got, e, api.Proof{Key: key(3), End: api.EndOther, Value: []byte("zero")})
	got, e = proof.Make(api.Tree{}, api.Digest{})
	wantProof(t, "none", got, e, api.Proof{End: api.EndNone})
}

func TestMakeSeesNoOtherVersion(t *testing.T) {
	x := example()
	for root, l := range [][]api.Pair{nil, {pair(200, "b")}, {pair(3, "a")}, {pair(3, "a"), pair(200, "b")}} {
		x.Root = root
		for _, k := range []api.Digest{key(3), key(4), key(200), {}} {
			got, e := proof.Make(x, k)
			wantProof(t, fmt.Sprint("at root ", root), got, e, proofOf(l, k))
		}
	}
}

// Each is right but for one thing.
func wrongTrees() map[string]api.Tree {
	a, b := leaf(pair(3, "a")), leaf(pair(200, "b"))
	fork := api.Node{Left: 1, Right: 2}
	return map[string]api.Tree{
		"a root below 0":          {Nodes: []api.Node{a}, Root: -1},
		"the least root":          {Nodes: []api.Node{a}, Root: math.MinInt},
		"a root behind the last":  {Nodes: []api.Node{a}, Root: 2},
		"the greatest root":       {Nodes: []api.Node{a}, Root: math.MaxInt},
		"a root of nothing":       {Root: 1},
		"a fork of two 0s":        {Nodes: []api.Node{{}}, Root: 1},
		"a wrong node elsewhere":  {Nodes: []api.Node{a, {}}, Root: 1},
		"a wrong node, no root":   {Nodes: []api.Node{{}}},
		"a fork of one leaf":      {Nodes: []api.Node{a, {Left: 1}}, Root: 2},
		"one leaf, twice":         {Nodes: []api.Node{a, {Left: 1, Right: 1}}, Root: 2},
		"both turned":             {Nodes: []api.Node{a, b, {Left: 2, Right: 1}}, Root: 3},
		"left is wrong":           {Nodes: []api.Node{b, leaf(pair(201, "c")), fork}, Root: 3},
		"right is wrong":          {Nodes: []api.Node{a, leaf(pair(4, "c")), fork}, Root: 3},
		"a fork to itself":        {Nodes: []api.Node{a, b, {Left: 1, Right: 3}}, Root: 3},
		"a fork far behind":       {Nodes: []api.Node{a, b, {Left: math.MaxInt, Right: 2}}, Root: 3},
		"a fork below 0":          {Nodes: []api.Node{a, b, {Left: math.MinInt, Right: 2}}, Root: 3},
		"a leaf without value":    {Nodes: []api.Node{{Leaf: true, Key: key(3)}}, Root: 1},
		"a leaf's value of 65":    {Nodes: []api.Node{{Leaf: true, Key: key(3), Value: counted(65)}}, Root: 1},
		"a node too many":         {Nodes: leaves(api.MaxNodes + 1)},
		"a node too many, a root": {Nodes: leaves(api.MaxNodes + 1), Root: 1},
	}
}

func TestMakeOfWhatIsNoTree(t *testing.T) {
	for what, x := range wrongTrees() {
		for _, k := range []api.Digest{{}, key(3), key(77), key(200), filled(255)} {
			if got, e := proof.Make(x, k); e != api.ErrBad || !alike(got, api.Proof{}) {
				t.Errorf("%s: error %d and a proof %s", what, e, brief(got))
			}
		}
	}
}

// Nothing is put, so a tree may be as full as any.
func TestMakeOfAFullTree(t *testing.T) {
	l := hashedMap(9)
	x := laidBehind(leaves(api.MaxNodes-len(laid(l).Nodes)), l)
	if len(x.Nodes) != api.MaxNodes {
		t.Fatalf("%d nodes", len(x.Nodes))
	}
	for _, k := range []api.Digest{l[0].Key, key(77), hashed(-1)} {
		got, e := proof.Make(x, k)
		wantProof(t, "a full tree", got, e, proofOf(l, k))
	}
}

// P7.2: Check and Told.

// Proofs that may be, of each end, up to the edges.
func goodProofs() map[string]api.Proof {
	good := map[string]api.Proof{
		"all zero":                 {},
		"empty lists":              {Value: []byte{}, Sides: []api.Digest{}},
		"none":                     {Key: key(3)},
		"own":                      {Key: key(3), End: api.EndOwn, Value: []byte("a")},
		"own, of zero":             {End: api.EndOwn, Value: []byte("a")},
		"other":                    {Key: key(3), End: api.EndOther, Other: key(4), Value: []byte("a")},
		"other, of zero":           {End: api.EndOther, Other: key(4), Value: []byte("a")},
		"other zero":               {Key: key(4), End: api.EndOther, Value: []byte("a")},
		"a side that is all zero":  {Key: key(3), Sides: []api.Digest{{}}},
		"sides that are all alike": {Key: key(3), Sides: []api.Digest{hashed(1), hashed(1), hashed(1)}},
	}
	for n := 1; n <= api.MaxValue; n++ {
		good[fmt.Sprint("own of ", n)] = api.Proof{Key: key(3), End: api.EndOwn, Value: counted(n)}
		good[fmt.Sprint("other of ", n)] = api.Proof{Key: key(3), End: api.EndOther, Other: key(4), Value: counted(n)}
	}
	for n := range api.Depth + 1 {
		k := hashed(n)
		good[fmt.Sprint("none, sides ", n)] = api.Proof{Key: k, Sides: sides(n)}
		good[fmt.Sprint("own, sides ", n)] = api.Proof{Key: k, End: api.EndOwn, Value: []byte("a"), Sides: sides(n)}
		if n == api.Depth {
			continue
		}
		// It shares just as many bits as there are sides; and one more.
		p := api.Proof{Key: k, End: api.EndOther, Other: turned(k, n), Value: []byte("a"), Sides: sides(n)}
		good[fmt.Sprint("other, sides ", n)] = p
		p.Other = turned(k, min(n+1, api.Depth-1))
		good[fmt.Sprint("other, less than shared ", n)] = p
	}
	return good
}

// Each is right but for one thing.
func wrongProofs() map[string]api.Proof {
	wrong := map[string]api.Proof{
		"none, with a value":     {Key: key(3), Value: []byte("a")},
		"none, with a long one":  {Key: key(3), Value: counted(65)},
		"none, with another":     {Key: key(3), Other: key(4)},
		"none, with its own":     {Key: key(3), Other: key(3)},
		"none, its last bit":     {Key: key(3), Other: api.Digest{31: 1}},
		"own, with another":      {Key: key(3), End: api.EndOwn, Other: key(4), Value: []byte("a")},
		"own, with its own":      {Key: key(3), End: api.EndOwn, Other: key(3), Value: []byte("a")},
		"own, its last bit":      {Key: key(3), End: api.EndOwn, Other: api.Digest{31: 1}, Value: []byte("a")},
		"own, without a value":   {Key: key(3), End: api.EndOwn},
		"own, an empty value":    {Key: key(3), End: api.EndOwn, Value: []byte{}},
		"own, 65 bytes":          {Key: key(3), End: api.EndOwn, Value: counted(65)},
		"own, 5000 bytes":        {Key: key(3), End: api.EndOwn, Value: counted(5000)},
		"other, which is its":    {Key: key(3), End: api.EndOther, Other: key(3), Value: []byte("a")},
		"other, both zero":       {End: api.EndOther, Value: []byte("a")},
		"other, without a value": {Key: key(3), End: api.EndOther, Other: key(4)},
		"other, an empty value":  {Key: key(3), End: api.EndOther, Other: key(4), Value: []byte{}},
		"other, 65 bytes":        {Key: key(3), End: api.EndOther, Other: key(4), Value: counted(65)},
		"other, 5000 bytes":      {Key: key(3), End: api.EndOther, Other: key(4), Value: counted(5000)},
		"other, its own, 256":    {Key: key(3), End: api.EndOther, Other: key(3), Value: []byte("a"), Sides: sides(256)},
		"end 3, nothing else":    {End: 3},
	}
	for _, end := range []uint8{3, 4, 128, 254, 255} {
		wrong[fmt.Sprint("as none, end ", end)] = api.Proof{Key: key(3), End: end}
		wrong[fmt.Sprint("as own, end ", end)] = api.Proof{Key: key(3), End: end, Value: []byte("a")}
		wrong[fmt.Sprint("as other, end ", end)] = api.Proof{Key: key(3), End: end, Other: key(4), Value: []byte("a")}
	}
	for _, n := range []int{257, 258, 5000} {
		wrong[fmt.Sprint("none, sides ", n)] = api.Proof{Key: key(3), Sides: sides(n)}
		wrong[fmt.Sprint("own, sides ", n)] = api.Proof{Key: key(3), End: api.EndOwn, Value: []byte("a"), Sides: sides(n)}
		wrong[fmt.Sprint("other, sides ", n)] = api.Proof{Key: key(3), End: api.EndOther, Other: turned(key(3), 255), Value: []byte("a"), Sides: sides(n)}
	}
	for i := range api.Depth {
		k := hashed(i)
		p := api.Proof{Key: k, End: api.EndOther, Other: turned(k, i), Value: []byte("a"), Sides: sides(i + 1)}
		wrong[fmt.Sprint("a side more than shared, ", i)] = p
	}
	return wrong
}

func TestCheckOfProofs(t *testing.T) {
	for what, p := range goodProofs() {
		if e := proof.Check(p); e != api.OK {
			t.Errorf("%s: error %d: %s", what, e, brief(p))
		}
	}
}

func TestCheckRefusesWhatIsNoProof(t *testing.T) {
	for what, p := range wrongProofs() {
		if e := proof.Check(p); e != api.ErrBad {
			t.Errorf("%s: error %d: %s", what, e, brief(p))
		}
	}
}

func TestToldOfProofs(t *testing.T) {
	for what, p := range goodProofs() {
		v, is := proof.Told(p)
		if p.End == api.EndOwn {
			if !is || !bytes.Equal(v, p.Value) {
				t.Errorf("%s: %x, %t", what, v, is)
			}
		} else if is || len(v) != 0 {
			t.Errorf("%s tells %x, %t", what, v, is)
		}
	}
}

func TestToldOfWhatIsNoProof(t *testing.T) {
	for what, p := range wrongProofs() {
		if v, is := proof.Told(p); is || len(v) != 0 {
			t.Errorf("%s tells %x, %t", what, v, is)
		}
	}
}

// P7.2: Same and Twin.

// Of any ones, not of those alone that may be.
func unlikeProofs() []api.Proof {
	all := []api.Proof{
		{}, {Key: key(3)}, {Key: key(4)}, {Key: api.Digest{31: 1}}, {End: 1}, {End: 2}, {End: 255},
		{Other: key(3)}, {Other: key(4)}, {Other: api.Digest{31: 1}}, {Key: key(3), Other: key(3)},
		{Value: []byte("a")}, {Value: []byte("b")}, {Value: []byte("aa")}, {Value: []byte{0}}, {Value: counted(65)}, {Value: counted(5000)},
		{Sides: sides(1)}, {Sides: sides(2)}, {Sides: sides(2)[1:]}, {Sides: []api.Digest{{}}}, {Sides: []api.Digest{{}, {}}},
		{Sides: sides(256)}, {Sides: sides(257)}, {Sides: sides(5000)},
	}
	for _, at := range []int{0, 1, 20, 39} {
		v, l := counted(40), sides(40)
		v[at]++
		l[at] = turned(l[at], 255)
		all = append(all, api.Proof{Value: v}, api.Proof{Sides: l})
	}
	turnedRound := sides(2)
	slices.Reverse(turnedRound)
	return append(all, api.Proof{Sides: turnedRound})
}

func copied(p api.Proof) api.Proof {
	p.Value = slices.Clone(p.Value)
	p.Sides = slices.Clone(p.Sides)
	return p
}

func TestSame(t *testing.T) {
	all := unlikeProofs()
	for i, a := range all {
		for j, b := range all {
			if got := proof.Same(a, copied(b)); got != (i == j) {
				t.Errorf("Same of %d and %d: %t", i, j, got)
			}
		}
	}
	for what, p := range goodProofs() {
		if !proof.Same(p, copied(p)) {
			t.Errorf("%s is not the same as itself", what)
		}
	}
	if !proof.Same(api.Proof{}, api.Proof{Value: []byte{}, Sides: []api.Digest{}}) {
		t.Error("lists that are empty, and lists that are nil, are not the same")
	}
}

func TestTwin(t *testing.T) {
	all := unlikeProofs()
	for _, some := range []map[string]api.Proof{goodProofs(), wrongProofs()} {
		for _, p := range some {
			all = append(all, p)
		}
	}
	for _, p := range all {
		if got := proof.Twin(p); !alike(got, p) {
			t.Errorf("Twin of a proof %s: one %s", brief(p), brief(got))
		}
	}
}

// P7.4: it hangs on what the tree stands for alone.

func TestMakeHangsOnThePairsAlone(t *testing.T) {
	for _, l := range [][]api.Pair{hashedMap(30), combMap(hashed(3))[:20], hashedMap(2)} {
		for seed := range 3 {
			r := rand.New(rand.NewSource(int64(seed)))
			x := putInOrder(t, l, r.Perm(len(l)))
			for _, k := range keysAbout(l) {
				got, e := proof.Make(x, k)
				wantProof(t, fmt.Sprint("in the order of ", seed), got, e, proofOf(l, k))
				want, has := tree.Get(x, k)
				if v, is := proof.Told(got); is != has || !bytes.Equal(v, want) {
					t.Errorf("Told %x, %t, the tree has %x, %t", v, is, want, has)
				}
			}
		}
	}
}

// Also by pairs that were there for a while, and by other values at first.
func putInOrder(t *testing.T, l []api.Pair, order []int) api.Tree {
	t.Helper()
	x := api.Tree{}
	then := func(got api.Tree, e api.Errno) {
		t.Helper()
		if e != api.OK {
			t.Fatalf("error %d", e)
		}
		x = got
	}
	for _, i := range order {
		then(tree.Put(x, hashed(1000+i), []byte("for a while")))
		then(tree.Put(x, l[i].Key, []byte("at first")))
		then(tree.Put(x, l[i].Key, l[i].Value))
	}
	for _, i := range order {
		then(tree.Drop(x, hashed(1000+i)))
	}
	return x
}

// P7.3.

// What stands behind a list's end, or a value's, is its caller's: neither read nor changed.
func roomyBytes(b []byte) []byte {
	out := append(make([]byte, 0, len(b)+8), b...)
	copy(out[len(out):cap(out)], "beyond!!")
	return out
}

func roomyProof(p api.Proof) api.Proof {
	p.Value = roomyBytes(p.Value)
	l := append(make([]api.Digest, 0, len(p.Sides)+3), p.Sides...)
	copy(l[len(l):cap(l)], []api.Digest{hashed(91), hashed(92), hashed(93)})
	p.Sides = l
	return p
}

func roomyTree(t api.Tree) api.Tree {
	out := make([]api.Node, 0, len(t.Nodes)+3)
	for _, at := range t.Nodes {
		at.Value = roomyBytes(at.Value)
		out = append(out, at)
	}
	beyond := out[len(out):cap(out)]
	for i := range beyond {
		beyond[i] = leaf(pair(byte(100+i), "beyond"))
	}
	return api.Tree{Nodes: out, Root: t.Root}
}

func whollyProof(p api.Proof) string {
	return fmt.Sprintf("%x %d %x %d: %x %d: %x", p.Key, p.End, p.Other,
		len(p.Value), p.Value[:cap(p.Value)], len(p.Sides), p.Sides[:cap(p.Sides)])
}

func whollyTree(t api.Tree) string {
	b := fmt.Append(nil, t.Root, " ", len(t.Nodes))
	for _, at := range t.Nodes[:cap(t.Nodes)] {
		b = fmt.Appendf(b, "%t %x %d: %x %d %d\n", at.Leaf, at.Key, len(at.Value), at.Value[:cap(at.Value)], at.Left, at.Right)
	}
	return string(b)
}

// Also what an append to it would write to.
func overwriteProof(p api.Proof) {
	v, l := p.Value[:cap(p.Value)], p.Sides[:cap(p.Sides)]
	for i := range v {
		v[i] ^= 0xff
	}
	for i := range l {
		l[i] = filled(0xee)
	}
}

func overwriteTree(t api.Tree) {
	nodes := t.Nodes[:cap(t.Nodes)]
	for i := range nodes {
		v := nodes[i].Value[:cap(nodes[i].Value)]
		for j := range v {
			v[j] ^= 0xff
		}
		nodes[i] = leaf(pair(99, "overwritten"))
	}
}

func TestTreesThatAreHandedInStay(t *testing.T) {
	all := []api.Tree{{}, example(), laid(hashedMap(9)), laid(combMap(hashed(1))), laidBehind(leaves(5), hashedMap(30))}
	for _, x := range wrongTrees() {
		if len(x.Nodes) < 3000 {
			all = append(all, x)
		}
	}
	for _, x := range all {
		in := roomyTree(x)
		before := whollyTree(in)
		for _, k := range append(keysAbout(hashedMap(9)), key(3), key(200)) {
			proof.Make(in, k)
		}
		if whollyTree(in) != before {
			t.Errorf("a tree of %d nodes is changed", len(x.Nodes))
		}
	}
}

func TestProofsThatAreHandedInStay(t *testing.T) {
	for _, some := range []map[string]api.Proof{goodProofs(), wrongProofs()} {
		for what, p := range some {
			in, other := roomyProof(p), roomyProof(p)
			before := whollyProof(in)
			proof.Check(in)
			proof.Told(in)
			proof.Same(in, other)
			proof.Twin(in)
			if whollyProof(in) != before || whollyProof(other) != before {
				t.Errorf("%s is changed", what)
			}
		}
	}
}

// What is made is overwritten, and changes neither the tree nor what is made behind
// it; nor is it changed with the tree.
func TestWhatIsMadeIsNewMemory(t *testing.T) {
	l := combMap(hashed(1))
	for _, k := range []api.Digest{l[0].Key, hashed(1), key(3), turned(hashed(1), 200), turned(turned(hashed(1), 3), 255)} {
		want := proofOf(l, k)
		in := roomyTree(laid(l))
		before := whollyTree(in)
		first, _ := proof.Make(in, k)
		second, _ := proof.Make(in, k)
		overwriteProof(first)
		third, e := proof.Make(in, k)
		if whollyTree(in) != before || e != api.OK || !alike(second, want) || !alike(third, want) {
			t.Errorf("the proof %s is not new memory", brief(want))
		}
		overwriteTree(in)
		if !alike(second, want) {
			t.Errorf("the proof %s changes with its tree", brief(want))
		}
	}
}

func TestTwinIsNewMemory(t *testing.T) {
	for _, some := range []map[string]api.Proof{goodProofs(), wrongProofs()} {
		for what, p := range some {
			in := roomyProof(p)
			before := whollyProof(in)
			first, second := proof.Twin(in), proof.Twin(in)
			overwriteProof(first)
			if whollyProof(in) != before || !alike(second, p) {
				t.Errorf("the twin of %s is not new memory", what)
			}
			overwriteProof(in)
			if !alike(second, p) {
				t.Errorf("the twin of %s changes with what was handed in", what)
			}
		}
	}
}

func TestToldIsNewMemory(t *testing.T) {
	in := roomyProof(api.Proof{Key: key(3), End: api.EndOwn, Value: []byte("value")})
	before := whollyProof(in)
	first, _ := proof.Told(in)
	second, _ := proof.Told(in)
	overwriteProof(api.Proof{Value: first})
	if whollyProof(in) != before || string(second) != "value" {
		t.Error("what is told is not new memory")
	}
	overwriteProof(in)
	if string(second) != "value" {
		t.Error("what is told changes with what was handed in")
	}
}
