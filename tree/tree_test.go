package tree_test

import (
	"bytes"
	"crypto/sha256"
	"encoding/binary"
	"fmt"
	"math"
	"math/rand"
	"slices"
	"strings"
	"testing"

	"beadroll/api"
	"beadroll/pairs"
	"beadroll/tag"
	"beadroll/tree"
)

// At most so many nodes are put by one call.
const room = 300

// A key whose first byte is told, all others 0, as in the chapters' examples.
func key(first byte) api.Digest {
	return api.Digest{first}
}

func pair(first byte, v string) api.Pair {
	return api.Pair{Key: key(first), Value: []byte(v)}
}

// No byte is like the one beside it, so that one that is left out or turned round shows.
func counted(n int) []byte {
	b := make([]byte, n)
	for i := range b {
		b[i] = byte(i*7 + 3)
	}
	return b
}

func hashed(i int) api.Digest {
	return sha256.Sum256([]byte(fmt.Sprint("key ", i)))
}

func bitOf(k api.Digest, i int) byte {
	return k[i/8] >> (7 - i%8) & 1
}

func turned(k api.Digest, i int) api.Digest {
	k[i/8] ^= 128 >> (i % 8)
	return k
}

func filled(b byte) api.Digest {
	return api.Digest(bytes.Repeat([]byte{b}, 32))
}

// Of bytes whose highest bit is the first one, what is ahead is what is less.
func inOrder(keys []api.Digest) []api.Digest {
	keys = slices.Clone(keys)
	slices.SortFunc(keys, func(a, b api.Digest) int { return bytes.Compare(a[:], b[:]) })
	return slices.Compact(keys)
}

// Each value is its key's own, and of all lengths that may be.
func valueOf(k api.Digest) []byte {
	d := sha256.Sum256(k[:])
	return slices.Repeat(d[:], 2)[:1+int(d[0])%api.MaxValue]
}

func mapOf(keys []api.Digest) []api.Pair {
	var l []api.Pair
	for _, k := range inOrder(keys) {
		l = append(l, api.Pair{Key: k, Value: valueOf(k)})
	}
	return l
}

func hashedMap(n int) []api.Pair {
	var keys []api.Digest
	for i := range n {
		keys = append(keys, hashed(i))
	}
	return mapOf(keys)
}

// Keys that share as many bits as may be, two by two.
func twinnedMap(n int) []api.Pair {
	var keys []api.Digest
	for i := range n {
		k := hashed(i / 2)
		if i%2 == 1 {
			k = turned(k, 255)
		}
		keys = append(keys, k)
	}
	return mapOf(keys)
}

// Keys of which each parts from the first one at another bit: the deepest map.
func combMap(k api.Digest) []api.Pair {
	keys := []api.Digest{k}
	for i := range api.Depth {
		keys = append(keys, turned(k, i))
	}
	return mapOf(keys)
}

func partedAt(k api.Digest, i int) []api.Pair {
	return mapOf([]api.Digest{k, turned(k, i)})
}

func maps() [][]api.Pair {
	all := [][]api.Pair{
		nil, {pair(0, "x")}, {pair(255, "x")}, {{Value: counted(api.MaxValue)}},
		{pair(3, "a"), pair(9, "c")}, {pair(3, "a"), pair(200, "b")}, {pair(127, "a"), pair(128, "a")},
		mapOf([]api.Digest{{}, filled(255)}),
		twinnedMap(2), twinnedMap(3), twinnedMap(9), twinnedMap(100),
		combMap(api.Digest{}), combMap(filled(255)), combMap(filled(0xaa)), combMap(hashed(7)),
	}
	for _, n := range []int{1, 2, 3, 4, 5, 6, 7, 8, 9, 31, 100, api.MaxPairs, api.MaxPairs + 1, 700} {
		all = append(all, hashedMap(n))
	}
	for _, i := range []int{0, 1, 7, 8, 100, 254, 255} {
		all = append(all, partedAt(api.Digest{}, i), partedAt(filled(255), i), partedAt(hashed(1), i))
	}
	return all
}

func parted(l []api.Pair, d int) [2][]api.Pair {
	var halves [2][]api.Pair
	for _, p := range l {
		b := bitOf(p.Key, d)
		halves[b] = append(halves[b], p)
	}
	return halves
}

func leaf(p api.Pair) api.Node {
	return api.Node{Leaf: true, Key: p.Key, Value: slices.Clone(p.Value)}
}

// By the chapter's words, and not by tree.Put, so that each call is tested alone; the
// right road is laid first, as the document leaves open which is.
func lay(nodes *[]api.Node, l []api.Pair, d int) int {
	if len(l) == 0 {
		return 0
	}
	at := api.Node{}
	if len(l) == 1 {
		at = leaf(l[0])
	} else {
		halves := parted(l, d)
		at.Right = lay(nodes, halves[1], d+1)
		at.Left = lay(nodes, halves[0], d+1)
	}
	*nodes = append(*nodes, at)
	return len(*nodes)
}

func laid(l []api.Pair) api.Tree {
	var t api.Tree
	t.Root = lay(&t.Nodes, l, 0)
	return t
}

// Behind other nodes, that Root does not lead to.
func laidBehind(ahead []api.Node, l []api.Pair) api.Tree {
	t := api.Tree{Nodes: slices.Clone(ahead)}
	t.Root = lay(&t.Nodes, l, 0)
	return t
}

func leaves(n int) []api.Node {
	return slices.Repeat([]api.Node{leaf(pair(77, "elsewhere"))}, n)
}

// A tree of just so many nodes that stands for l.
func sized(n int, l []api.Pair) api.Tree {
	return laidBehind(leaves(n-len(laid(l).Nodes)), l)
}

// Each node but the first one leads twice to the one ahead: gone through to the end,
// they would be 2^(n - 1) leaves.
func ladder(n int) []api.Node {
	nodes := []api.Node{leaf(pair(0, "x"))}
	for i := 1; i < n; i++ {
		nodes = append(nodes, api.Node{Left: i, Right: i})
	}
	return nodes
}

// Forks one behind the other down to depth d, of one road each, that bits tell (left,
// where there are none any more), above what the last one of the nodes stands for.
func under(nodes []api.Node, d int, bits api.Digest) api.Tree {
	nodes = slices.Clone(nodes)
	for i := d - 1; i >= 0; i-- {
		at := api.Node{Left: len(nodes)}
		if i < api.Depth && bitOf(bits, i) == 1 {
			at = api.Node{Right: len(nodes)}
		}
		nodes = append(nodes, at)
	}
	return api.Tree{Nodes: nodes, Root: len(nodes)}
}

// Trees that may be: laid, and with nodes to which Root does not lead.
func goodTrees() map[string]api.Tree {
	a, b := leaf(pair(3, "a")), leaf(pair(200, "b"))
	good := map[string]api.Tree{
		"nothing":                       {},
		"an empty list":                 {Nodes: []api.Node{}},
		"a leaf elsewhere":              {Nodes: []api.Node{a}},
		"a fork elsewhere":              {Nodes: []api.Node{a, b, {Left: 1, Right: 2}}, Root: 1},
		"a fork's empty value":          {Nodes: []api.Node{a, b, {Left: 1, Right: 2, Value: []byte{}}}, Root: 3},
		"a wrong turn elsewhere":        {Nodes: []api.Node{a, b, {Left: 2, Right: 1}}, Root: 2},
		"a fork of one leaf elsewhere":  {Nodes: []api.Node{a, b, {Left: 1}, {Left: 1, Right: 2}}, Root: 4},
		"a fork of one leaf, behind":    {Nodes: []api.Node{a, {Right: 1}}, Root: 1},
		"a leaf twice elsewhere":        {Nodes: []api.Node{a, {Left: 1, Right: 1}}},
		"a ladder elsewhere":            {Nodes: ladder(5000)},
		"a ladder, and its leaf":        {Nodes: ladder(5000), Root: 1},
		"300 forks of one elsewhere":    {Nodes: under([]api.Node{a}, 300, key(3)).Nodes},
		"a fork of a fork and 0":        laid([]api.Pair{pair(3, "a"), pair(65, "b")}),
		"the last bit, left":            laid(partedAt(api.Digest{}, 255)),
		"the last bit, right":           laid(partedAt(filled(255), 255)),
		"one leaf, two roads, versions": {Nodes: []api.Node{a, b, {Left: 1, Right: 2}, {Left: 3, Right: 2}}, Root: 3},
		"as many nodes as may be":       {Nodes: leaves(api.MaxNodes)},
		"as many, and the last one":     {Nodes: leaves(api.MaxNodes), Root: api.MaxNodes},
	}
	for i, l := range maps() {
		good[fmt.Sprint("map ", i, " of ", len(l))] = laid(l)
	}
	for n := 1; n <= api.MaxValue; n++ {
		good[fmt.Sprint("a value of ", n)] = laid([]api.Pair{{Key: key(3), Value: counted(n)}})
	}
	for i := range api.Depth {
		good[fmt.Sprint("parted at ", i)] = laid(partedAt(hashed(i), i))
	}
	return good
}

// What makes a fork of 1 and 2, the third node of four, one that may not be.
func wrongForks() map[string]func(*api.Node) {
	return map[string]func(*api.Node){
		"a fork's key":             func(n *api.Node) { n.Key = key(1) },
		"a fork's key, last bit":   func(n *api.Node) { n.Key[31] = 1 },
		"a fork's value":           func(n *api.Node) { n.Value = []byte("a") },
		"a fork's long value":      func(n *api.Node) { n.Value = counted(5000) },
		"a fork to itself":         func(n *api.Node) { n.Right = 3 },
		"a fork to itself, left":   func(n *api.Node) { n.Left = 3 },
		"a fork to one behind":     func(n *api.Node) { n.Right = 4 },
		"a fork left to one":       func(n *api.Node) { n.Left = 4 },
		"a fork to one far behind": func(n *api.Node) { n.Right = math.MaxInt },
		"a fork left far behind":   func(n *api.Node) { n.Left = math.MaxInt },
		"a fork to less than 0":    func(n *api.Node) { n.Right = -1 },
		"a fork left to less":      func(n *api.Node) { n.Left = -1 },
		"a fork to the least":      func(n *api.Node) { n.Right = math.MinInt },
		"a fork left to the least": func(n *api.Node) { n.Left = math.MinInt },
		"a fork to 0 and less":     func(n *api.Node) { n.Left, n.Right = 0, -1 },
		"a fork of 0s":             func(n *api.Node) { n.Left, n.Right = 0, 0 },
	}
}

// Each is right but for one thing.
func wrongTrees() map[string]api.Tree {
	a, b := leaf(pair(3, "a")), leaf(pair(200, "b"))
	fork := api.Node{Left: 1, Right: 2}
	leafWith := func(change func(*api.Node)) api.Tree {
		at := leaf(pair(200, "b"))
		change(&at)
		return api.Tree{Nodes: []api.Node{a, at}, Root: 1}
	}
	wrong := map[string]api.Tree{
		"a fork of two 0s":           {Nodes: []api.Node{{}}, Root: 1},
		"a fork of two 0s elsewhere": {Nodes: []api.Node{a, {}}, Root: 1},
		"a fork of one leaf, left":   {Nodes: []api.Node{a, {Left: 1}}, Root: 2},
		"a fork of one leaf, right":  {Nodes: []api.Node{b, {Right: 1}}, Root: 2},
		"a fork of the wrong leaf":   {Nodes: []api.Node{a, {Right: 1}}, Root: 2},
		"a fork of one fork of one":  {Nodes: []api.Node{a, {Left: 1}, {Left: 2}}, Root: 3},
		"beside it a fork of one":    {Nodes: []api.Node{a, b, {Left: 1}, {Left: 3, Right: 2}}, Root: 4},
		"both turned":                {Nodes: []api.Node{a, b, {Left: 2, Right: 1}}, Root: 3},
		"left is wrong":              {Nodes: []api.Node{b, leaf(pair(201, "c")), fork}, Root: 3},
		"right is wrong":             {Nodes: []api.Node{a, leaf(pair(4, "c")), fork}, Root: 3},
		"one leaf, twice":            {Nodes: []api.Node{a, {Left: 1, Right: 1}}, Root: 2},
		"root less than 0":           {Nodes: []api.Node{a}, Root: -1},
		"root the least":             {Nodes: []api.Node{a}, Root: math.MinInt},
		"root behind the last":       {Nodes: []api.Node{a}, Root: 2},
		"root the greatest":          {Nodes: []api.Node{a}, Root: math.MaxInt},
		"root of nothing":            {Root: 1},
		"a root, no nodes":           {Nodes: []api.Node{}, Root: -1},
		"a node too many":            {Nodes: leaves(api.MaxNodes + 1)},
		"a node too many, root":      {Nodes: leaves(api.MaxNodes + 1), Root: 1},
		"far too many zero nodes":    {Nodes: make([]api.Node, api.MaxNodes*2)},
		"a leaf's left":              leafWith(func(n *api.Node) { n.Left = 1 }),
		"a leaf's right":             leafWith(func(n *api.Node) { n.Right = 1 }),
		"a leaf's left below 0":      leafWith(func(n *api.Node) { n.Left = -1 }),
		"a leaf without value":       leafWith(func(n *api.Node) { n.Value = nil }),
		"a leaf's empty value":       leafWith(func(n *api.Node) { n.Value = []byte{} }),
		"a leaf's value of 65":       leafWith(func(n *api.Node) { n.Value = counted(65) }),
		"a leaf's value of 5000":     leafWith(func(n *api.Node) { n.Value = counted(5000) }),
	}
	for what, change := range wrongForks() {
		at := fork
		change(&at)
		nodes := []api.Node{a, b, at, b}
		wrong[what] = api.Tree{Nodes: nodes, Root: 3}
		wrong[what+", elsewhere"] = api.Tree{Nodes: nodes, Root: 1}
	}
	for _, n := range []int{2, 3, 100, 256, 257, 258, 259, 5000} {
		wrong[fmt.Sprint("a ladder of ", n)] = api.Tree{Nodes: ladder(n), Root: n}
	}
	// A fork at depth 256, of two leaves of the one key that could stand there.
	same := []api.Node{leaf(pair(0, "x")), leaf(pair(0, "y")), fork}
	wrong["a fork below the last bit"] = under(same, 256, api.Digest{})
	wrong["a fork far below the last bit"] = under(same, 400, api.Digest{})
	wrong["one leaf at the last depth"] = under([]api.Node{leaf(pair(0, "x"))}, 256, api.Digest{})
	for _, i := range []int{0, 1, 7, 8, 100, 254} {
		// Right below, but some bit that leads there is not the keys' own.
		ends := partedAt(api.Digest{}, 255)
		nodes := []api.Node{leaf(ends[0]), leaf(ends[1]), fork}
		wrong[fmt.Sprint("a wrong bit ", i)] = under(nodes, 255, turned(api.Digest{}, i))
	}
	for _, l := range [][]api.Pair{hashedMap(100), twinnedMap(50), combMap(hashed(3))} {
		for at := 0; at < len(l); at += 7 {
			t := laid(l)
			i := slices.IndexFunc(t.Nodes, func(n api.Node) bool { return n.Key == l[at].Key })
			t.Nodes[i].Key = turned(l[at].Key, 0)
			wrong[fmt.Sprint(len(l), " with a wrong key at ", at)] = t
		}
	}
	return wrong
}

// What a number stands for, by the chapter's words.
func standsFor(t api.Tree, n int) []api.Pair {
	if n == 0 {
		return nil
	}
	at := t.Nodes[n-1]
	if at.Leaf {
		return []api.Pair{{Key: at.Key, Value: at.Value}}
	}
	return append(standsFor(t, at.Left), standsFor(t, at.Right)...)
}

// All keys of the map, those beside them, and some that lie anywhere.
func keysAbout(l []api.Pair) []api.Digest {
	keys := []api.Digest{{}, filled(255), key(1), key(4), key(127), key(128), hashed(-1), hashed(-2)}
	for i := 0; i < len(l); i += 1 + len(l)/12 {
		k := l[i].Key
		keys = append(keys, k, turned(k, 255), turned(k, i%256), turned(k, 0), turned(k, 254))
	}
	return inOrder(keys)
}

func valueIn(l []api.Pair, k api.Digest) ([]byte, bool) {
	for _, p := range l {
		if p.Key == k {
			return p.Value, true
		}
	}
	return nil, false
}

func withoutPair(l []api.Pair, k api.Digest) []api.Pair {
	return slices.DeleteFunc(slices.Clone(l), func(p api.Pair) bool { return p.Key == k })
}

func withPair(l []api.Pair, k api.Digest, v []byte) []api.Pair {
	out := append(withoutPair(l, k), api.Pair{Key: k, Value: v})
	slices.SortFunc(out, func(p, q api.Pair) int { return bytes.Compare(p.Key[:], q.Key[:]) })
	return out
}

// By the library, and not by tree.Same, so that a fault there shows.
func alikeNodes(a, b api.Node) bool {
	return a.Leaf == b.Leaf && a.Key == b.Key && bytes.Equal(a.Value, b.Value) && a.Left == b.Left && a.Right == b.Right
}

func alike(a, b api.Tree) bool {
	return a.Root == b.Root && slices.EqualFunc(a.Nodes, b.Nodes, alikeNodes)
}

func alikePairs(a, b []api.Pair) bool {
	return slices.EqualFunc(a, b, func(p, q api.Pair) bool {
		return p.Key == q.Key && bytes.Equal(p.Value, q.Value)
	})
}

func copied(t api.Tree) api.Tree {
	out := api.Tree{Root: t.Root}
	for _, at := range t.Nodes {
		at.Value = slices.Clone(at.Value)
		out.Nodes = append(out.Nodes, at)
	}
	return out
}

func brief(t api.Tree) string {
	var b strings.Builder
	fmt.Fprintf(&b, "root %d of %d nodes", t.Root, len(t.Nodes))
	for _, at := range t.Nodes[:min(len(t.Nodes), 4)] {
		fmt.Fprintf(&b, "; %t %x %x %d %d", at.Leaf, at.Key, at.Value, at.Left, at.Right)
	}
	return b.String()
}

func isZero(t api.Tree) bool {
	return len(t.Nodes) == 0 && t.Root == 0
}

func wantError(t *testing.T, what string, got api.Tree, e, want api.Errno) {
	t.Helper()
	if e != want || !isZero(got) {
		t.Errorf("%s: error %d and %s, want error %d and nothing", what, e, brief(got), want)
	}
}

// A tree that may be, of old's nodes and at most 300 more, that stands for want.
func wantBehind(t *testing.T, what string, old, got api.Tree, e api.Errno, want []api.Pair) {
	t.Helper()
	if e != api.OK {
		t.Errorf("%s: error %d", what, e)
		return
	}
	if e := tree.Check(got); e != api.OK {
		t.Errorf("%s: what is answered may not be: %s", what, brief(got))
		return
	}
	more := len(got.Nodes) - len(old.Nodes)
	if more < 0 || more > room || !slices.EqualFunc(got.Nodes[:len(old.Nodes)], old.Nodes, alikeNodes) {
		t.Errorf("%s: %d more nodes, or others than there were", what, more)
		return
	}
	if l := standsFor(got, got.Root); !alikePairs(l, want) {
		t.Errorf("%s: it stands for %d pairs, not for the right %d", what, len(l), len(want))
	}
}

// The chapter's examples.

func TestExamples(t *testing.T) {
	if d, e := tree.Sum(api.Tree{}); e != api.OK || d != tag.None() {
		t.Errorf("Sum of the empty tree: %x, error %d", d, e)
	}
	x, e := tree.Put(api.Tree{}, key(3), []byte("a"))
	wantBehind(t, "Put", api.Tree{}, x, e, []api.Pair{pair(3, "a")})
	if l, e := tree.Pairs(x); e != api.OK || !alikePairs(l, []api.Pair{pair(3, "a")}) {
		t.Errorf("Pairs: %v, error %d", l, e)
	}
	old, e := tree.At(x, 0)
	wantBehind(t, "At 0", x, old, e, nil)
	if l, e := tree.Pairs(old); e != api.OK || len(l) != 0 {
		t.Errorf("Pairs of the version 0: %v, error %d", l, e)
	}
	y, e := tree.Drop(x, key(3))
	wantBehind(t, "Drop", x, y, e, nil)
	z, e := tree.Drop(y, key(3))
	wantError(t, "Drop again", z, e, api.ErrNone)
	if tree.Check(api.Tree{Nodes: []api.Node{{}}, Root: 1}) != api.ErrBad {
		t.Error("a fork of two 0s is not refused")
	}
	if tree.Check(api.Tree{Nodes: []api.Node{leaf(pair(3, "a")), {Left: 1}}, Root: 2}) != api.ErrBad {
		t.Error("a fork of one leaf is not refused")
	}
}

// P6.1: Check.

func TestCheckOfTrees(t *testing.T) {
	for what, x := range goodTrees() {
		if e := tree.Check(x); e != api.OK {
			t.Errorf("%s: error %d: %s", what, e, brief(x))
		}
	}
}

func TestCheckRefusesWhatIsNoTree(t *testing.T) {
	for what, x := range wrongTrees() {
		if e := tree.Check(x); e != api.ErrBad {
			t.Errorf("%s: error %d: %s", what, e, brief(x))
		}
	}
}

func TestCheckOfAsManyPairsAsMayBe(t *testing.T) {
	x := laid(hashedMap(api.MaxNodes / 4))
	if e := tree.Check(x); e != api.OK {
		t.Errorf("a tree of %d nodes: error %d", len(x.Nodes), e)
	}
	last := slices.IndexFunc(x.Nodes, func(n api.Node) bool { return n.Leaf && n.Key[0] < 128 })
	x.Nodes[last].Key = turned(x.Nodes[last].Key, 0)
	if e := tree.Check(x); e != api.ErrBad {
		t.Errorf("one wrong key of %d nodes: error %d", len(x.Nodes), e)
	}
}

// P6.1: Get.

func TestGetTellsTheValue(t *testing.T) {
	for what, x := range goodTrees() {
		l := standsFor(x, x.Root)
		for _, k := range keysAbout(l) {
			want, has := valueIn(l, k)
			if v, is := tree.Get(x, k); is != has || !bytes.Equal(v, want) {
				t.Errorf("Get %x of %s: %x, %t", k, what, v, is)
			}
			if len(x.Nodes) > api.MaxNodes/2 {
				break
			}
		}
	}
}

func TestGetSeesNoOtherVersion(t *testing.T) {
	x := laid([]api.Pair{pair(3, "a"), pair(200, "b")})
	for root, want := range map[int]string{0: "", 1: "b", 2: "a", 3: "ab"} {
		x.Root = root
		a, _ := tree.Get(x, key(3))
		b, _ := tree.Get(x, key(200))
		if string(a)+string(b) != want {
			t.Errorf("at root %d: %q and %q", root, a, b)
		}
	}
}

func TestGetOfWhatIsNoTree(t *testing.T) {
	for what, x := range wrongTrees() {
		for _, k := range []api.Digest{key(3), key(200), {}, key(77), filled(255)} {
			if v, is := tree.Get(x, k); is || len(v) != 0 {
				t.Errorf("Get of %s: %x, %t", what, v, is)
			}
		}
	}
}

// P6.1: Same and Twin.

func unlikeTrees() []api.Tree {
	a, b := leaf(pair(3, "a")), leaf(pair(200, "b"))
	all := []api.Tree{
		{}, {Root: 1}, {Root: -1}, {Root: math.MaxInt}, {Nodes: []api.Node{{}}}, {Nodes: []api.Node{{}, {}}},
		{Nodes: []api.Node{{}}, Root: 1}, {Nodes: []api.Node{a}}, {Nodes: []api.Node{b}},
		{Nodes: []api.Node{a}, Root: 1}, {Nodes: []api.Node{a, b}}, {Nodes: []api.Node{b, a}},
		{Nodes: []api.Node{a, a}}, {Nodes: []api.Node{a, {}}}, {Nodes: []api.Node{{}, a}},
		{Nodes: []api.Node{{Leaf: true}}}, {Nodes: []api.Node{{Key: key(3)}}},
		{Nodes: []api.Node{{Key: api.Digest{31: 1}}}}, {Nodes: []api.Node{{Value: []byte("a")}}},
		{Nodes: []api.Node{{Value: []byte("b")}}}, {Nodes: []api.Node{{Value: []byte("aa")}}},
		{Nodes: []api.Node{{Left: 1}}}, {Nodes: []api.Node{{Right: 1}}}, {Nodes: []api.Node{{Left: -1}}},
		{Nodes: []api.Node{{Right: -1}}}, {Nodes: []api.Node{{Left: 1, Right: 1}}},
		{Nodes: []api.Node{{Left: 1, Right: 2}}}, {Nodes: []api.Node{{Left: 2, Right: 1}}},
		{Nodes: []api.Node{{Value: counted(5000)}}},
	}
	for _, at := range []int{0, 1, 20, 39} {
		x := api.Tree{Nodes: leaves(40)}
		x.Nodes[at].Value = []byte("another")
		all = append(all, x)
	}
	return all
}

func TestSameTellsUnlikeTrees(t *testing.T) {
	all := unlikeTrees()
	for i := range all {
		for j := range all {
			if tree.Same(all[i], copied(all[j])) != (i == j) {
				t.Errorf("%s and %s: same is %t", brief(all[i]), brief(all[j]), i != j)
			}
		}
	}
}

func TestSameHoldsNilAndEmptyTheSame(t *testing.T) {
	if !tree.Same(api.Tree{}, api.Tree{Nodes: []api.Node{}}) || !tree.Same(api.Tree{Nodes: []api.Node{}}, api.Tree{}) {
		t.Error("no nodes, and a list that is nil, are the same")
	}
	a, b := api.Tree{Nodes: []api.Node{{}}}, api.Tree{Nodes: []api.Node{{Value: []byte{}}}}
	if !tree.Same(a, b) || !tree.Same(b, a) {
		t.Error("no value, and a value that is nil, are the same")
	}
}

func TestTwinIsTheSame(t *testing.T) {
	all := unlikeTrees()
	for _, x := range goodTrees() {
		all = append(all, x)
	}
	for _, x := range wrongTrees() {
		all = append(all, x)
	}
	for _, x := range all {
		if twin := tree.Twin(x); !alike(twin, x) {
			t.Errorf("the twin of %s is %s", brief(x), brief(twin))
		}
		if !tree.Same(x, copied(x)) {
			t.Errorf("%s is not the same as itself", brief(x))
		}
	}
}

// P6.2: At.

func TestAtTellsEachVersion(t *testing.T) {
	l := []api.Pair{pair(3, "a"), pair(200, "b")}
	x := laid(l)
	for root, want := range [][]api.Pair{nil, l[1:], l[:1], l} {
		got, e := tree.At(x, root)
		if e != api.OK || got.Root != root || !slices.EqualFunc(got.Nodes, x.Nodes, alikeNodes) ||
			!alikePairs(standsFor(got, root), want) {
			t.Errorf("At %d: error %d, %s", root, e, brief(got))
		}
	}
}

func TestAtRefusesWhatIsNoVersion(t *testing.T) {
	a, b := leaf(pair(3, "a")), leaf(pair(200, "b"))
	// Beside the right ones: a wrong turn, a fork of one leaf, and one of the wrong leaf.
	x := api.Tree{Nodes: []api.Node{a, b, {Left: 1, Right: 2}, {Left: 2, Right: 1}, {Left: 1}, {Left: 2}}, Root: 3}
	for _, root := range []int{4, 5, 6, 7, -1, math.MinInt, math.MaxInt} {
		got, e := tree.At(x, root)
		wantError(t, fmt.Sprint("At ", root), got, e, api.ErrArg)
	}
	for root := range 4 {
		if got, e := tree.At(x, root); e != api.OK || got.Root != root {
			t.Errorf("At %d: error %d, %s", root, e, brief(got))
		}
	}
	// What is right at another depth is right at depth 0 only where it stands for all.
	deep := laid(partedAt(api.Digest{}, 9))
	for root := 1; root <= len(deep.Nodes); root++ {
		got, e := tree.At(deep, root)
		if root == 1 || root == 2 || root == deep.Root {
			wantBehind(t, "At a leaf, or the root", deep, got, e, standsFor(deep, root))
		} else {
			wantError(t, "At a fork below", got, e, api.ErrArg)
		}
	}
	long := api.Tree{Nodes: ladder(3000)}
	got, e := tree.At(long, 3000)
	wantError(t, "At a ladder's end", got, e, api.ErrArg)
}

// P6.2, P6.3: Check's error first.

func TestWhatIsNoTreeIsRefused(t *testing.T) {
	for what, x := range wrongTrees() {
		for _, root := range []int{0, 1, x.Root, -1} {
			got, e := tree.At(x, root)
			wantError(t, "At of "+what, got, e, api.ErrBad)
		}
		if l, e := tree.Pairs(x); e != api.ErrBad || len(l) != 0 {
			t.Errorf("Pairs of %s: %d, error %d", what, len(l), e)
		}
		if d, e := tree.Sum(x); e != api.ErrBad || d != (api.Digest{}) {
			t.Errorf("Sum of %s: %x, error %d", what, d, e)
		}
		for _, k := range []api.Digest{key(3), {}, key(77)} {
			if end, sides, e := tree.Road(x, k); e != api.ErrBad || !alikeNodes(end, api.Node{}) || len(sides) != 0 {
				t.Errorf("Road of %s: %v, %d sides, error %d", what, end, len(sides), e)
			}
			got, e := tree.Put(x, k, []byte("x"))
			wantError(t, "Put in "+what, got, e, api.ErrBad)
			got, e = tree.Put(x, k, nil)
			wantError(t, "Put of nothing in "+what, got, e, api.ErrBad)
			got, e = tree.Drop(x, k)
			wantError(t, "Drop in "+what, got, e, api.ErrBad)
		}
	}
}

// P6.2: Pairs.

func TestPairsTellsWhatRootStandsFor(t *testing.T) {
	for _, l := range maps() {
		if got, e := tree.Pairs(laid(l)); e != api.OK || !alikePairs(got, l) {
			t.Errorf("Pairs of %d: %d, error %d", len(l), len(got), e)
		}
	}
	for what, x := range goodTrees() {
		if got, e := tree.Pairs(x); e != api.OK || !alikePairs(got, standsFor(x, x.Root)) {
			t.Errorf("Pairs of %s: %d, error %d", what, len(got), e)
		}
	}
	l := hashedMap(5000)
	if got, e := tree.Pairs(laid(l)); e != api.OK || !alikePairs(got, l) {
		t.Errorf("Pairs of 5000: %d, error %d", len(got), e)
	}
}

// P6.2: Sum.

// What is digested of a kind and parts, by the library.
func digested(kind byte, parts ...[]byte) api.Digest {
	b := []byte{kind}
	for _, p := range parts {
		b = append(binary.BigEndian.AppendUint32(b, uint32(len(p))), p...)
	}
	return sha256.Sum256(b)
}

// By layer 5's definition, however many pairs there are.
func rootOf(l []api.Pair, depth int) api.Digest {
	if len(l) == 0 {
		return digested(0)
	}
	if len(l) == 1 {
		return digested(1, l[0].Key[:], l[0].Value)
	}
	halves := parted(l, depth)
	left, right := rootOf(halves[0], depth+1), rootOf(halves[1], depth+1)
	return digested(2, left[:], right[:])
}

func TestSumIsTheRootOfTheMap(t *testing.T) {
	for _, l := range append(maps(), hashedMap(5000)) {
		d, e := tree.Sum(laid(l))
		if e != api.OK || d != rootOf(l, 0) {
			t.Errorf("Sum of %d: %x, error %d", len(l), d, e)
		}
		if root, e := pairs.Root(l); e == api.OK && d != root {
			t.Errorf("Sum of %d: %x, its root is %x", len(l), d, root)
		}
	}
	for what, x := range goodTrees() {
		if d, e := tree.Sum(x); e != api.OK || d != rootOf(standsFor(x, x.Root), 0) {
			t.Errorf("Sum of %s: %x, error %d", what, d, e)
		}
	}
}

// P6.2: Road.

// By halves of pairs, and not by forks.
func roadOf(l []api.Pair, k api.Digest) (end api.Node, sides []api.Digest) {
	for len(l) > 1 {
		d := len(sides)
		halves := parted(l, d)
		b := bitOf(k, d)
		sides = append(sides, rootOf(halves[1-b], d+1))
		l = halves[b]
	}
	if len(l) == 1 {
		end = leaf(l[0])
	}
	return end, sides
}

func TestRoadOfExample(t *testing.T) {
	x := laid([]api.Pair{pair(3, "a"), pair(200, "b")})
	three, other := key(3), key(200)
	a, b := tag.Of(1, three[:], []byte("a")), tag.Of(1, other[:], []byte("b"))
	for _, c := range []struct {
		k    byte
		end  string
		side api.Digest
	}{{3, "a", b}, {4, "a", b}, {200, "b", a}, {201, "b", a}} {
		end, sides, e := tree.Road(x, key(c.k))
		if e != api.OK || string(end.Value) != c.end || !slices.Equal(sides, []api.Digest{c.side}) {
			t.Errorf("Road of %d: %v, %x, error %d", c.k, end, sides, e)
		}
	}
}

func TestRoadGoesTheWayOfTheKey(t *testing.T) {
	for _, l := range maps() {
		x := laid(l)
		for _, k := range keysAbout(l) {
			wantEnd, wantSides := roadOf(l, k)
			end, sides, e := tree.Road(x, k)
			if e != api.OK || !alikeNodes(end, wantEnd) || !slices.Equal(sides, wantSides) {
				t.Errorf("Road of %x in %d: %v, %d sides, error %d", k, len(l), end, len(sides), e)
			}
		}
	}
}

func TestRoadsThatEndAtNothing(t *testing.T) {
	x := laid([]api.Pair{pair(3, "a"), pair(5, "b")})
	for k, many := range map[byte]int{200: 1, 64: 2, 32: 3, 8: 5} {
		end, sides, e := tree.Road(x, key(k))
		if e != api.OK || !alikeNodes(end, api.Node{}) || len(sides) != many {
			t.Errorf("Road of %d: %v, %d sides, error %d", k, end, len(sides), e)
		}
	}
	if end, sides, e := tree.Road(api.Tree{}, key(3)); e != api.OK || !alikeNodes(end, api.Node{}) || len(sides) != 0 {
		t.Errorf("Road of the empty tree: %v, %d sides, error %d", end, len(sides), e)
	}
}

// P6.3: Put.

func TestPutAnywhere(t *testing.T) {
	for _, l := range maps() {
		x := laid(l)
		for i, k := range keysAbout(l) {
			v := counted(1 + i%api.MaxValue)
			got, e := tree.Put(x, k, v)
			wantBehind(t, "Put", x, got, e, withPair(l, k, v))
		}
	}
}

func TestPutOfWhatIsThere(t *testing.T) {
	l := hashedMap(9)
	x := laid(l)
	for _, p := range l {
		got, e := tree.Put(x, p.Key, p.Value)
		wantBehind(t, "Put of what is there", x, got, e, l)
	}
}

func TestPutOfEachLength(t *testing.T) {
	for n := range api.MaxValue + 3 {
		got, e := tree.Put(laid(hashedMap(3)), key(3), counted(n))
		if n == 0 || n > api.MaxValue {
			wantError(t, fmt.Sprint("a value of ", n), got, e, api.ErrBad)
		} else {
			wantBehind(t, fmt.Sprint("a value of ", n), laid(hashedMap(3)), got, e, withPair(hashedMap(3), key(3), counted(n)))
		}
	}
	got, e := tree.Put(api.Tree{}, key(3), nil)
	wantError(t, "no value", got, e, api.ErrBad)
}

// Two keys that part at each bit: forks are put down to there.
func TestPutPartsAtEachBit(t *testing.T) {
	for _, k := range []api.Digest{{}, filled(255), hashed(1)} {
		for i := range api.Depth {
			l := partedAt(k, i)
			old := laid([]api.Pair{{Key: k, Value: valueOf(k)}})
			other := turned(k, i)
			got, e := tree.Put(old, other, valueOf(other))
			wantBehind(t, fmt.Sprint("parted at ", i), old, got, e, l)
		}
	}
}

func TestPutKeepsOtherNodes(t *testing.T) {
	for what, x := range goodTrees() {
		if len(x.Nodes) > api.MaxNodes-room {
			got, e := tree.Put(x, key(5), []byte("new"))
			wantError(t, "Put in "+what, got, e, api.ErrFull)
			continue
		}
		got, e := tree.Put(x, key(5), []byte("new"))
		wantBehind(t, "Put in "+what, x, got, e, withPair(standsFor(x, x.Root), key(5), []byte("new")))
	}
}

func TestPutWhereItIsFull(t *testing.T) {
	l := []api.Pair{{Key: api.Digest{}, Value: []byte("first")}}
	last := turned(api.Digest{}, 255)
	x := sized(api.MaxNodes-room, l)
	got, e := tree.Put(x, last, []byte("last"))
	wantBehind(t, "Put of the deepest in the fullest", x, got, e, withPair(l, last, []byte("last")))

	x = sized(api.MaxNodes-room+1, l)
	for _, k := range []api.Digest{{}, last, hashed(1)} {
		got, e = tree.Put(x, k, []byte("last"))
		wantError(t, "Put in one node more", got, e, api.ErrFull)
		got, e = tree.Put(x, k, nil)
		wantError(t, "Put of no value in one node more", got, e, api.ErrBad)
		got, e = tree.Put(x, k, counted(65))
		wantError(t, "Put of 65 bytes in one node more", got, e, api.ErrBad)
	}
	x = sized(api.MaxNodes, l)
	got, e = tree.Put(x, last, []byte("last"))
	wantError(t, "Put in as many nodes as may be", got, e, api.ErrFull)
}

// P6.3: Drop.

func TestDropAnywhere(t *testing.T) {
	for _, l := range maps() {
		x := laid(l)
		for _, k := range keysAbout(l) {
			got, e := tree.Drop(x, k)
			if _, has := valueIn(l, k); !has {
				wantError(t, "Drop of what is not there", got, e, api.ErrNone)
				continue
			}
			wantBehind(t, "Drop", x, got, e, withoutPair(l, k))
		}
	}
}

// One leaf is left behind forks of nothing else, and moves all the way up.
func TestDropPartsNoMore(t *testing.T) {
	for _, k := range []api.Digest{{}, filled(255), hashed(1)} {
		for i := range api.Depth {
			l := partedAt(k, i)
			x := laid(l)
			for at, p := range l {
				got, e := tree.Drop(x, p.Key)
				wantBehind(t, fmt.Sprint("parted at ", i), x, got, e, l[1-at:2-at])
			}
		}
	}
}

// What is left is two that part deep down: their fork stays, and so do those above.
func TestDropBesideAFork(t *testing.T) {
	for _, i := range []int{2, 3, 9, 100, 254, 255} {
		for _, at := range []int{0, 1} {
			l := append(partedAt(api.Digest{}, i), api.Pair{Key: turned(api.Digest{}, at), Value: []byte("beside")})
			x := laid(l)
			got, e := tree.Drop(x, l[2].Key)
			wantBehind(t, fmt.Sprint("beside a fork at ", i), x, got, e, l[:2])
		}
	}
}

func TestDropKeepsOtherNodes(t *testing.T) {
	for what, x := range goodTrees() {
		l := standsFor(x, x.Root)
		if len(l) == 0 {
			got, e := tree.Drop(x, key(3))
			wantError(t, "Drop in "+what, got, e, api.ErrNone)
			continue
		}
		got, e := tree.Drop(x, l[0].Key)
		if len(x.Nodes) > api.MaxNodes-room {
			wantError(t, "Drop in "+what, got, e, api.ErrFull)
			continue
		}
		wantBehind(t, "Drop in "+what, x, got, e, l[1:])
	}
}

func TestDropWhereItIsFull(t *testing.T) {
	l := combMap(api.Digest{})
	x := sized(api.MaxNodes-room, l)
	got, e := tree.Drop(x, l[0].Key)
	wantBehind(t, "Drop of the deepest in the fullest", x, got, e, l[1:])

	x = sized(api.MaxNodes-room+1, l)
	got, e = tree.Drop(x, l[0].Key)
	wantError(t, "Drop in one node more", got, e, api.ErrFull)
	got, e = tree.Drop(x, hashed(1))
	wantError(t, "Drop of what is not there in one node more", got, e, api.ErrNone)

	x = sized(api.MaxNodes, nil)
	got, e = tree.Drop(x, key(77))
	wantError(t, "Drop of what another version has, where it is full", got, e, api.ErrNone)
}

// P6.5.

type version struct {
	root int
	l    []api.Pair
}

func wantVersion(t *testing.T, x api.Tree, was version) {
	t.Helper()
	got, e := tree.At(x, was.root)
	if e != api.OK {
		t.Fatalf("At %d: error %d", was.root, e)
	}
	l, e := tree.Pairs(got)
	if e != api.OK || !alikePairs(l, was.l) {
		t.Errorf("the version %d: %d pairs, error %d, it was %d", was.root, len(l), e, len(was.l))
	}
	if d, e := tree.Sum(got); e != api.OK || d != rootOf(was.l, 0) {
		t.Errorf("the version %d: Sum %x, error %d", was.root, d, e)
	}
	if len(l) > api.MaxPairs {
		return
	}
	if e := pairs.Check(l); e != api.OK {
		t.Errorf("the version %d is no map, error %d", was.root, e)
	}
}

func someKeys(r *rand.Rand) []api.Digest {
	keys := []api.Digest{{}, filled(255)}
	for i := range 12 {
		keys = append(keys, hashed(i), turned(hashed(i), r.Intn(256)), turned(hashed(i), 255), key(byte(i)))
	}
	return inOrder(keys)
}

func TestVersionsStay(t *testing.T) {
	for seed := range 5 {
		r := rand.New(rand.NewSource(int64(seed)))
		keys := someKeys(r)
		var x api.Tree
		was := []version{{}}
		for step := range 80 {
			l := was[len(was)-1].l
			k := keys[r.Intn(len(keys))]
			got, e := api.Tree{}, api.OK
			if _, has := valueIn(l, k); has && r.Intn(2) == 0 {
				got, e = tree.Drop(x, k)
				l = withoutPair(l, k)
			} else {
				v := counted(1 + step%api.MaxValue)
				got, e = tree.Put(x, k, v)
				l = withPair(l, k, v)
			}
			wantBehind(t, fmt.Sprint("step ", step), x, got, e, l)
			x = got
			was = append(was, version{x.Root, l})
		}
		for _, v := range was {
			wantVersion(t, x, v)
		}
	}
}

// Versions may go on from an old one, and part.
func TestVersionsPart(t *testing.T) {
	l := hashedMap(20)
	x := laid(l)
	base := x.Root
	was := []version{{0, nil}, {base, l}}
	for _, p := range l {
		old, e := tree.At(x, base)
		if e != api.OK {
			t.Fatalf("At: error %d", e)
		}
		if x, e = tree.Drop(old, p.Key); e != api.OK {
			t.Fatalf("Drop: error %d", e)
		}
		was = append(was, version{x.Root, withoutPair(l, p.Key)})
	}
	for _, v := range was {
		wantVersion(t, x, v)
	}
}

func TestSumHangsOnThePairsAlone(t *testing.T) {
	for _, l := range [][]api.Pair{hashedMap(40), twinnedMap(20), hashedMap(2)} {
		want := rootOf(l, 0)
		for seed := range 5 {
			r := rand.New(rand.NewSource(int64(seed)))
			x := api.Tree{}
			must := func(got api.Tree, e api.Errno) {
				if e != api.OK {
					t.Fatalf("error %d", e)
				}
				x = got
			}
			for _, i := range r.Perm(len(l)) {
				must(tree.Put(x, hashed(1000+i), []byte("for a while")))
				must(tree.Put(x, l[i].Key, []byte("at first")))
				must(tree.Put(x, l[i].Key, l[i].Value))
			}
			for _, i := range r.Perm(len(l)) {
				must(tree.Drop(x, hashed(1000+i)))
			}
			if d, e := tree.Sum(x); e != api.OK || d != want {
				t.Errorf("in the order of %d: Sum %x, error %d", seed, d, e)
			}
		}
	}
}

// P6.4.

// What stands behind a list's end, or a value's, is its caller's: neither read nor changed.
func roomyBytes(b []byte) []byte {
	out := append(make([]byte, 0, len(b)+8), b...)
	copy(out[len(out):cap(out)], "beyond!!")
	return out
}

func roomy(t api.Tree) api.Tree {
	out := make([]api.Node, 0, len(t.Nodes)+3)
	for _, at := range t.Nodes {
		at.Value = roomyBytes(at.Value)
		out = append(out, at)
	}
	beyond := out[len(out):cap(out)]
	for i := range beyond {
		beyond[i] = leaf(pair(byte(100+i), "beyond"))
	}
	return api.Tree{Nodes: out, Root: t.Root}
}

func wholly(t api.Tree) string {
	var b strings.Builder
	for _, at := range t.Nodes[:cap(t.Nodes)] {
		fmt.Fprintf(&b, "%t %x %d: %x %d %d\n", at.Leaf, at.Key, len(at.Value), at.Value[:cap(at.Value)], at.Left, at.Right)
	}
	return b.String()
}

func trees() []api.Tree {
	all := unlikeTrees()
	for _, some := range []map[string]api.Tree{goodTrees(), wrongTrees()} {
		for _, x := range some {
			if len(x.Nodes) < 3000 {
				all = append(all, x)
			}
		}
	}
	return all
}

func TestWhatIsHandedInStays(t *testing.T) {
	for _, x := range trees() {
		in := roomy(x)
		before := wholly(in)
		v := roomyBytes([]byte("value"))
		handed := string(v[:cap(v)])
		tree.Check(in)
		tree.At(in, 0)
		tree.At(in, 1)
		tree.Pairs(in)
		tree.Sum(in)
		tree.Same(in, in)
		tree.Twin(in)
		keys := []api.Digest{{}, key(3), key(200), filled(255), hashed(1)}
		for _, at := range x.Nodes[:min(len(x.Nodes), 5)] {
			keys = append(keys, at.Key)
		}
		for _, k := range keys {
			tree.Get(in, k)
			tree.Put(in, k, v)
			tree.Drop(in, k)
			tree.Road(in, k)
		}
		if wholly(in) != before || string(v[:cap(v)]) != handed {
			t.Errorf("what was handed in is changed: %s", brief(x))
		}
	}
}

// Also what an append to b would write to.
func overwriteBytes(b []byte) {
	b = b[:cap(b)]
	for i := range b {
		b[i] ^= 0xff
	}
}

func overwrite(t api.Tree) {
	for _, at := range t.Nodes {
		overwriteBytes(at.Value)
	}
	nodes := t.Nodes[:cap(t.Nodes)]
	for i := range nodes {
		nodes[i] = leaf(pair(99, "overwritten"))
	}
}

// Each answer is overwritten, and changes neither what was handed in nor another answer;
// and of one answer no value changes another one.
func sharesNone(t *testing.T, what string, in api.Tree, call func() api.Tree) {
	t.Helper()
	before := wholly(in)
	first, second, third := call(), call(), call()
	want := copied(first)
	overwrite(first)
	if !alike(second, want) || wholly(in) != before {
		t.Errorf("%s: what is answered is not new memory", what)
	}
	for i := range second.Nodes {
		overwriteBytes(second.Nodes[i].Value)
		if !slices.EqualFunc(second.Nodes[i+1:], want.Nodes[i+1:], alikeNodes) {
			t.Errorf("%s: two values of one answer share memory", what)
			break
		}
	}
	overwrite(in)
	if !alike(third, want) {
		t.Errorf("%s: what is answered changes with what was handed in", what)
	}
}

// All values are one piece of memory, as a caller may have them.
func oneValue(t api.Tree) api.Tree {
	v := []byte("one for all")
	t = copied(t)
	for i := range t.Nodes {
		if t.Nodes[i].Leaf {
			t.Nodes[i].Value = v
		}
	}
	return t
}

func TestTreesAreNewMemory(t *testing.T) {
	for _, made := range []func() api.Tree{
		func() api.Tree { return roomy(api.Tree{}) },
		func() api.Tree { return roomy(laid([]api.Pair{pair(3, "a")})) },
		func() api.Tree { return roomy(laid(hashedMap(9))) },
		func() api.Tree { return roomy(laidBehind(leaves(5), hashedMap(30))) },
		func() api.Tree { return oneValue(laid(hashedMap(9))) },
	} {
		in := made()
		sharesNone(t, "Twin", in, func() api.Tree { return tree.Twin(in) })
		for _, root := range []int{0, 1, made().Root} {
			in := made()
			sharesNone(t, "At", in, func() api.Tree {
				got, _ := tree.At(in, root)
				return got
			})
		}
		for _, k := range []api.Digest{{}, filled(255), hashed(0), hashed(8), key(3)} {
			in := made()
			sharesNone(t, "Put", in, func() api.Tree {
				got, _ := tree.Put(in, k, []byte("value"))
				return got
			})
			in = made()
			sharesNone(t, "Drop", in, func() api.Tree {
				got, _ := tree.Drop(in, k)
				return got
			})
		}
	}
	for _, x := range wrongTrees() {
		in := roomy(api.Tree{Nodes: x.Nodes[:min(len(x.Nodes), 20)], Root: x.Root})
		sharesNone(t, "Twin of what is no tree", in, func() api.Tree { return tree.Twin(in) })
	}
}

func TestValuesAreNewMemory(t *testing.T) {
	l := hashedMap(9)
	x := laid(l)
	k := l[4].Key
	before := wholly(x)

	v, _ := tree.Get(x, k)
	overwriteBytes(v)
	end, sides, _ := tree.Road(x, k)
	overwriteBytes(end.Value)
	clear(sides[:cap(sides)])
	got, _ := tree.Pairs(x)
	for i := range got {
		overwriteBytes(got[i].Value)
		if !alikePairs(got[i+1:], l[i+1:]) {
			t.Error("two values of Pairs share memory")
		}
	}
	if wholly(x) != before {
		t.Error("a value, a road or pairs that are answered are not new memory")
	}

	value := []byte("value")
	put, _ := tree.Put(x, key(5), value)
	value[0] = 'x'
	if v, _ := tree.Get(put, key(5)); string(v) != "value" {
		t.Error("a value that was put changes with what was handed in")
	}
	for i := range put.Nodes {
		overwriteBytes(put.Nodes[i].Value)
	}
	if string(value) != "xalue" {
		t.Error("a value that was put is not new memory")
	}
}
