package acct_test

import (
	"bytes"
	"crypto/sha256"
	"encoding/binary"
	"encoding/hex"
	"fmt"
	"maps"
	"math"
	"math/big"
	"math/rand"
	"slices"
	"strings"
	"testing"

	"beadroll/acct"
	"beadroll/api"
	"beadroll/tree"
)

// At most so many nodes are put by one call.
const room = 300

const greatest = math.MaxUint64

// A key whose first byte is told, all others 0, as in the chapters' examples.
func key(first byte) api.Digest {
	return api.Digest{first}
}

func filled(b byte) api.Digest {
	return api.Digest(bytes.Repeat([]byte{b}, 32))
}

func hashed(i int) api.Digest {
	return sha256.Sum256([]byte(fmt.Sprint("key ", i)))
}

func bitOf(k api.Digest, i int) byte {
	return k[i/8] >> (7 - i%8) & 1
}

func turned(k api.Digest, i int) api.Digest {
	k[i/8] ^= 128 >> (i % 8)
	return k
}

// No byte is like the one beside it, so that one that is left out or turned round shows.
func counted(n int) []byte {
	b := make([]byte, n)
	for i := range b {
		b[i] = byte(i*7 + 3)
	}
	return b
}

func account(nonce, balance uint64) api.Account {
	return api.Account{Nonce: nonce, Balance: balance}
}

// By the library, and not by acct.Bytes, so that a fault there shows.
func bytesOf(a api.Account) []byte {
	return binary.BigEndian.AppendUint64(binary.BigEndian.AppendUint64(nil, a.Nonce), a.Balance)
}

// All accounts of two numbers that are at an edge, or a lone bit; the zero one among them.
func edges() []api.Account {
	numbers := []uint64{0, 1, 2, 127, 128, 255, 256, 258, 65535, 65536, math.MaxUint32, 1 << 32,
		0x0102030405060708, math.MaxInt64, 1 << 63, greatest - 1, greatest}
	var all []api.Account
	for _, nonce := range numbers {
		for _, balance := range numbers {
			all = append(all, account(nonce, balance))
		}
	}
	for i := range 64 {
		all = append(all, account(1<<i, 0), account(0, 1<<i))
	}
	return all
}

// A book tells the accounts that a state is to have, and none that is zero.
type book map[api.Digest]api.Account

func (b book) keys() []api.Digest {
	return slices.SortedFunc(maps.Keys(b), func(k, l api.Digest) int { return bytes.Compare(k[:], l[:]) })
}

func (b book) pairs() []api.Pair {
	var l []api.Pair
	for _, k := range b.keys() {
		l = append(l, api.Pair{Key: k, Value: bytesOf(b[k])})
	}
	return l
}

func (b book) with(k api.Digest, a api.Account) book {
	out := maps.Clone(b)
	if a == (api.Account{}) {
		delete(out, k)
	} else {
		out[k] = a
	}
	return out
}

func (b book) total() (high, low uint64) {
	sum := new(big.Int)
	for _, a := range b {
		sum.Add(sum, new(big.Int).SetUint64(a.Balance))
	}
	return new(big.Int).Rsh(sum, 64).Uint64(), new(big.Int).And(sum, new(big.Int).SetUint64(greatest)).Uint64()
}

// So many accounts, each its key's own.
func hashedBook(n int) book {
	b := book{}
	for i := range n {
		k := hashed(i)
		b[k] = account(binary.BigEndian.Uint64(k[3:])>>(i%64), binary.BigEndian.Uint64(k[19:])|1)
	}
	return b
}

// All balances are one.
func evenBook(n int, a api.Account) book {
	b := book{}
	for i := range n {
		b[hashed(i)] = a
	}
	return b
}

// Keys of which each parts from the first one at another bit: the deepest state.
func combBook(k api.Digest) book {
	b := book{k: account(7, 1)}
	for i := range api.Depth {
		b[turned(k, i)] = account(uint64(i), greatest-uint64(i))
	}
	return b
}

func example() book {
	return book{key(3): account(1, 258), key(65): account(0, 9), key(200): account(greatest, 0)}
}

func books() map[string]book {
	all := map[string]book{
		"empty": {}, "example": example(), "comb": combBook(hashed(7)), "comb of 0": combBook(api.Digest{}),
		"key 0": {api.Digest{}: account(0, 1)}, "last key": {filled(255): account(1, 0)},
		"first and last": {api.Digest{}: account(0, 1), filled(255): account(1, 0)},
		"the last bit":   {hashed(1): account(5, 6), turned(hashed(1), 255): account(6, 5)},
		"two greatest":   evenBook(2, account(greatest, greatest)),
		"513 greatest":   evenBook(513, account(0, greatest)),
		"nonces alone":   evenBook(20, account(greatest, 0)),
	}
	for _, n := range []int{1, 2, 3, 4, 9, 100, api.MaxPairs, api.MaxPairs + 1, 700} {
		all[fmt.Sprint(n, " hashed")] = hashedBook(n)
	}
	for i, a := range edges() {
		if a != (api.Account{}) {
			all[fmt.Sprint("edge ", i)] = book{hashed(i): a}
		}
	}
	return all
}

func leafOf(k api.Digest, v []byte) api.Node {
	return api.Node{Leaf: true, Key: k, Value: slices.Clone(v)}
}

// By layer 6's words, and not by tree.Put, so that each call is tested alone.
func lay(nodes *[]api.Node, l []api.Pair, d int) int {
	if len(l) == 0 {
		return 0
	}
	at := api.Node{}
	if len(l) == 1 {
		at = leafOf(l[0].Key, l[0].Value)
	} else {
		var halves [2][]api.Pair
		for _, p := range l {
			halves[bitOf(p.Key, d)] = append(halves[bitOf(p.Key, d)], p)
		}
		at.Right = lay(nodes, halves[1], d+1)
		at.Left = lay(nodes, halves[0], d+1)
	}
	*nodes = append(*nodes, at)
	return len(*nodes)
}

// Behind other nodes, that Root does not lead to.
func laidBehind(ahead []api.Node, l []api.Pair) api.Tree {
	t := api.Tree{Nodes: slices.Clone(ahead)}
	t.Root = lay(&t.Nodes, l, 0)
	return t
}

func laid(l []api.Pair) api.Tree {
	return laidBehind(nil, l)
}

func stateOf(b book) api.Tree {
	return laid(b.pairs())
}

// Leaves elsewhere, whose value is no account.
func leaves(n int) []api.Node {
	return slices.Repeat([]api.Node{leafOf(key(77), []byte("elsewhere"))}, n)
}

// A state of just so many nodes.
func sized(n int, b book) api.Tree {
	return laidBehind(leaves(n-len(stateOf(b).Nodes)), b.pairs())
}

func standsFor(t api.Tree, n int) []api.Pair {
	if n == 0 {
		return nil
	}
	at := t.Nodes[n-1]
	if at.Leaf {
		return []api.Pair{{Key: at.Key, Value: at.Value}}
	}
	return append(standsFor(t, at.Left), standsFor(t, at.Right)...)
}

func alikePairs(a, b []api.Pair) bool {
	return slices.EqualFunc(a, b, func(p, q api.Pair) bool {
		return p.Key == q.Key && bytes.Equal(p.Value, q.Value)
	})
}

func alikeNodes(a, b api.Node) bool {
	return a.Leaf == b.Leaf && a.Key == b.Key && bytes.Equal(a.Value, b.Value) && a.Left == b.Left && a.Right == b.Right
}

func alike(a, b api.Tree) bool {
	return a.Root == b.Root && slices.EqualFunc(a.Nodes, b.Nodes, alikeNodes)
}

func isZero(t api.Tree) bool {
	return len(t.Nodes) == 0 && t.Root == 0
}

func brief(t api.Tree) string {
	var b strings.Builder
	fmt.Fprintf(&b, "root %d of %d nodes", t.Root, len(t.Nodes))
	for _, at := range t.Nodes[:min(len(t.Nodes), 4)] {
		fmt.Fprintf(&b, "; %t %x %x %d %d", at.Leaf, at.Key, at.Value, at.Left, at.Right)
	}
	return b.String()
}

// Some keys of the book, those beside them, and some that lie anywhere.
func keysAbout(b book) []api.Digest {
	keys := []api.Digest{{}, filled(255), key(3), key(4), key(128), hashed(-1)}
	own := b.keys()
	for i := 0; i < len(own); i += 1 + len(own)/5 {
		keys = append(keys, own[i], turned(own[i], 255), turned(own[i], i%256))
	}
	return keys
}

func wantError(t *testing.T, what string, got api.Tree, e, want api.Errno) {
	t.Helper()
	if e != want || !isZero(got) {
		t.Errorf("%s: error %d and %s, want error %d and nothing", what, e, brief(got), want)
	}
}

// A state, of old's nodes and at most 300 more, that has what the book tells.
func wantState(t *testing.T, what string, old, got api.Tree, e api.Errno, want book) {
	t.Helper()
	if e != api.OK {
		t.Errorf("%s: error %d", what, e)
		return
	}
	if e := tree.Check(got); e != api.OK {
		t.Errorf("%s: what is answered may not be: %s", what, brief(got))
		return
	}
	more := len(got.Nodes) - len(old.Nodes)
	if more < 0 || more > room || !slices.EqualFunc(got.Nodes[:len(old.Nodes)], old.Nodes, alikeNodes) {
		t.Errorf("%s: %d more nodes, or others than there were", what, more)
		return
	}
	if l := standsFor(got, got.Root); !alikePairs(l, want.pairs()) {
		t.Errorf("%s: it has %d accounts, not the right %d", what, len(l), len(want))
	}
}

// The chapter's examples.

func TestExamples(t *testing.T) {
	if b := acct.Bytes(account(1, 258)); !bytes.Equal(b, []byte{0, 0, 0, 0, 0, 0, 0, 1, 0, 0, 0, 0, 0, 0, 1, 2}) {
		t.Errorf("Bytes of nonce 1, balance 258: %v", b)
	}
	for n, want := range map[int]api.Errno{15: api.ErrShort, 17: api.ErrLong, 16: api.ErrBad} {
		if a, e := acct.Read(make([]byte, n)); e != want || a != (api.Account{}) {
			t.Errorf("Read of %d noughts: %v, error %d", n, a, e)
		}
	}
	if x, e := acct.Set(api.Tree{}, key(3), api.Account{}); e != api.OK || !isZero(x) {
		t.Errorf("Set to zero in the empty state: error %d, %s", e, brief(x))
	}
	two := stateOf(book{key(3): account(0, greatest), key(200): account(0, greatest)})
	if high, low, e := acct.Total(two); high != 1 || low != greatest-1 || e != api.OK {
		t.Errorf("Total of two balances of 2^64 less 1: %d, %d, error %d", high, low, e)
	}
}

// P10.1: Key.

// Worked out by another program, once, so that nothing of this one's is asked.
func TestKeysThatAreKnown(t *testing.T) {
	var counting api.Digest
	for i := range counting {
		counting[i] = byte(i)
	}
	for pub, want := range map[api.Digest]string{
		{}:          "38a64646e4ced2198f42f8e4897a4ececc2976bad0d0d88f4bad5fca62789571",
		counting:    "84d03c2496d3bd564147402b15a4a1ce9adb34336be0eae0f675068690ad6914",
		filled(255): "94a4e43639ab56f01766980c67fefe122631195a732ca96a7dec685e0181b01d",
		key(3):      "b1e2d2953380a15f78ec08d8ab3d222bc54454e13a202e29d87dcc189eaa84a1",
	} {
		if k := acct.Key(pub); hex.EncodeToString(k[:]) != want {
			t.Errorf("Key of %x: %x", pub, k)
		}
	}
}

func TestKeyDigestsThePublicDigest(t *testing.T) {
	ahead := []byte{3, 0, 0, 0, 32}
	for i := range api.Depth {
		for _, pub := range []api.Digest{hashed(i), turned(api.Digest{}, i), turned(filled(255), i)} {
			if k := acct.Key(pub); k != sha256.Sum256(append(slices.Clone(ahead), pub[:]...)) {
				t.Errorf("Key of %x: %x", pub, k)
			}
		}
	}
}

// P10.1: Bytes and Read.

func TestBytesOfAccounts(t *testing.T) {
	for _, a := range edges() {
		if b := acct.Bytes(a); !bytes.Equal(b, bytesOf(a)) {
			t.Errorf("Bytes of %v: %v", a, b)
		}
	}
}

func TestReadOfAccounts(t *testing.T) {
	for _, a := range edges() {
		if a == (api.Account{}) {
			continue
		}
		if got, e := acct.Read(bytesOf(a)); e != api.OK || got != a {
			t.Errorf("Read of %v: %v, error %d", a, got, e)
		}
	}
	for i := range 16 {
		b := make([]byte, 16)
		b[i] = 128
		if got, e := acct.Read(b); e != api.OK || !bytes.Equal(bytesOf(got), b) {
			t.Errorf("Read of %v: %v, error %d", b, got, e)
		}
	}
}

func TestReadRefusesOtherLengths(t *testing.T) {
	for _, n := range []int{0, 1, 2, 7, 8, 9, 14, 15, 17, 18, 24, 31, 32, 33, 64, 65, 4096, 4097, 1 << 20} {
		want := api.ErrShort
		if n > 16 {
			want = api.ErrLong
		}
		for _, b := range [][]byte{make([]byte, n), counted(n), append(make([]byte, 0, n+16), counted(n)...)} {
			if a, e := acct.Read(b); e != want || a != (api.Account{}) {
				t.Errorf("Read of %d bytes: %v, error %d", n, a, e)
			}
		}
	}
	if a, e := acct.Read(nil); e != api.ErrShort || a != (api.Account{}) {
		t.Errorf("Read of nil: %v, error %d", a, e)
	}
}

// P10.2: Check.

// Whatever stands where Root does not lead.
func TestCheckOfStates(t *testing.T) {
	for what, b := range books() {
		for _, x := range []api.Tree{stateOf(b), laidBehind(leaves(3), b.pairs())} {
			if e := acct.Check(x); e != api.OK {
				t.Errorf("%s: error %d: %s", what, e, brief(x))
			}
		}
	}
	if e := acct.Check(api.Tree{Nodes: []api.Node{}}); e != api.OK {
		t.Errorf("no nodes: error %d", e)
	}
}

// Trees that may not be, though each value is an account's.
func wrongTrees() map[string]api.Tree {
	v := bytesOf(account(1, 258))
	a, b := leafOf(key(3), v), leafOf(key(200), v)
	fork := api.Node{Left: 1, Right: 2}
	many := slices.Repeat([]api.Node{a}, api.MaxNodes+1)
	return map[string]api.Tree{
		"a fork of two 0s":           {Nodes: []api.Node{{}}, Root: 1},
		"a fork of two 0s elsewhere": {Nodes: []api.Node{a, {}}, Root: 1},
		"a fork of one leaf":         {Nodes: []api.Node{a, {Left: 1}}, Root: 2},
		"a fork to itself":           {Nodes: []api.Node{a, {Left: 1, Right: 2}}, Root: 2},
		"both turned":                {Nodes: []api.Node{b, a, fork}, Root: 3},
		"one leaf, twice":            {Nodes: []api.Node{a, {Left: 1, Right: 1}}, Root: 2},
		"a fork's key":               {Nodes: []api.Node{a, b, {Key: key(1), Left: 1, Right: 2}}, Root: 3},
		"a fork's value":             {Nodes: []api.Node{a, b, {Value: v, Left: 1, Right: 2}}, Root: 3},
		"a leaf's left":              {Nodes: []api.Node{a, {Leaf: true, Key: key(200), Value: v, Left: 1}}, Root: 2},
		"a leaf elsewhere":           {Nodes: []api.Node{a, {Leaf: true, Key: key(200)}}, Root: 1},
		"a long leaf elsewhere":      {Nodes: []api.Node{a, leafOf(key(200), counted(65))}, Root: 1},
		"root behind the last":       {Nodes: []api.Node{a, b, fork}, Root: 4},
		"root less than 0":           {Nodes: []api.Node{a, b, fork}, Root: -1},
		"root the greatest":          {Nodes: []api.Node{a, b, fork}, Root: math.MaxInt},
		"root the least":             {Nodes: []api.Node{a, b, fork}, Root: math.MinInt},
		"root of nothing":            {Root: 1},
		"a node too many":            {Nodes: many, Root: 1},
		"a node too many, root 0":    {Nodes: many},
	}
}

// Values that may be in a tree, but are no account's bytes, or the zero one's.
func wrongValues() map[string][]byte {
	wrong := map[string][]byte{"16 noughts": make([]byte, 16)}
	for n := 1; n <= api.MaxValue; n++ {
		if n != 16 {
			wrong[fmt.Sprint(n, " bytes")] = counted(n)
			wrong[fmt.Sprint(n, " noughts")] = make([]byte, n)
		}
	}
	return wrong
}

// Trees that may be, one of whose values is wrong: the first, one between, the last.
func wrongStates() map[string]api.Tree {
	wrong := map[string]api.Tree{}
	for what, v := range wrongValues() {
		for _, b := range []book{hashedBook(1), example(), hashedBook(9), evenBook(30, account(1, greatest))} {
			for _, at := range []int{0, len(b) / 2, len(b) - 1} {
				l := b.pairs()
				l[at].Value = v
				wrong[fmt.Sprint(what, " at ", at, " of ", len(b))] = laid(l)
			}
		}
	}
	full := sized(api.MaxNodes, example())
	last := slices.IndexFunc(full.Nodes, func(n api.Node) bool { return n.Key == key(200) })
	full.Nodes[last].Value = make([]byte, 16)
	wrong["a full one"] = full
	return wrong
}

func TestCheckRefusesWhatIsNoTree(t *testing.T) {
	for what, x := range wrongTrees() {
		if e := acct.Check(x); e != api.ErrBad {
			t.Errorf("%s: error %d: %s", what, e, brief(x))
		}
	}
}

func TestCheckRefusesWhatIsNoState(t *testing.T) {
	for what, x := range wrongStates() {
		if tree.Check(x) != api.OK {
			t.Fatalf("%s: it may not be: %s", what, brief(x))
		}
		if e := acct.Check(x); e != api.ErrBad {
			t.Errorf("%s: error %d: %s", what, e, brief(x))
		}
	}
}

// What another version stands for counts for nothing.
func TestCheckOfEachVersion(t *testing.T) {
	right, zero := bytesOf(account(1, 258)), make([]byte, 16)
	x := api.Tree{Nodes: []api.Node{leafOf(key(3), right), leafOf(key(200), right), leafOf(key(200), zero),
		{Left: 1, Right: 2}, {Left: 1, Right: 3}}}
	for root, want := range []api.Errno{api.OK, api.OK, api.OK, api.ErrBad, api.OK, api.ErrBad} {
		x.Root = root
		if e := acct.Check(x); e != want {
			t.Errorf("at root %d: error %d", root, e)
		}
	}
}

func TestCheckOfAsManyNodesAsMayBe(t *testing.T) {
	if e := acct.Check(sized(api.MaxNodes, example())); e != api.OK {
		t.Errorf("a full state: error %d", e)
	}
	x := stateOf(hashedBook(api.MaxNodes / 4))
	if e := acct.Check(x); e != api.OK {
		t.Errorf("a state of %d nodes: error %d", len(x.Nodes), e)
	}
	// The right road is laid first, so that the last one of the keys stands in the first leaf.
	at := slices.IndexFunc(x.Nodes, func(n api.Node) bool { return n.Leaf })
	x.Nodes[at].Value = counted(15)
	if e := acct.Check(x); e != api.ErrBad {
		t.Errorf("one wrong value of %d nodes: error %d", len(x.Nodes), e)
	}
}

// P10.2: what is no state is refused, whatever else is asked for.

func TestWhatIsNoStateIsRefused(t *testing.T) {
	for _, some := range []map[string]api.Tree{wrongTrees(), wrongStates()} {
		for what, x := range some {
			keys := []api.Digest{key(3), {}}
			if len(x.Nodes) < 3000 {
				keys = append(keys, key(200), key(77), hashed(0), hashed(1), filled(255))
			}
			for _, k := range keys {
				wantRefused(t, what, x, k)
			}
			if high, low, e := acct.Total(x); high != 0 || low != 0 || e != api.ErrBad {
				t.Errorf("Total of %s: %d, %d, error %d", what, high, low, e)
			}
		}
	}
}

func wantRefused(t *testing.T, what string, x api.Tree, k api.Digest) {
	t.Helper()
	if a, e := acct.Get(x, k); e != api.ErrBad || a != (api.Account{}) {
		t.Errorf("Get of %s: %v, error %d", what, a, e)
	}
	for _, a := range []api.Account{{}, account(1, 0), account(0, 1), account(greatest, greatest)} {
		got, e := acct.Set(x, k, a)
		wantError(t, fmt.Sprint("Set of ", a, " in ", what), got, e, api.ErrBad)
	}
}

// P10.2: Get.

func TestGetTellsTheAccount(t *testing.T) {
	for what, b := range books() {
		x := stateOf(b)
		for _, k := range keysAbout(b) {
			if a, e := acct.Get(x, k); e != api.OK || a != b[k] {
				t.Errorf("Get of %x in %s: %v, error %d, want %v", k, what, a, e, b[k])
			}
		}
	}
}

func TestGetOfAFullState(t *testing.T) {
	x := sized(api.MaxNodes, example())
	for _, k := range []api.Digest{key(3), key(200), key(77)} {
		if a, e := acct.Get(x, k); e != api.OK || a != example()[k] {
			t.Errorf("Get of %x: %v, error %d", k, a, e)
		}
	}
}

func TestGetSeesNoOtherVersion(t *testing.T) {
	old := account(1, 5)
	x := api.Tree{Nodes: []api.Node{leafOf(key(3), bytesOf(old)), leafOf(key(200), bytesOf(account(2, 6))),
		{Left: 1, Right: 2}, leafOf(key(3), bytesOf(account(3, 7))), {Left: 4, Right: 2}}}
	for root, want := range []api.Account{{}, old, {}, old, account(3, 7), account(3, 7)} {
		x.Root = root
		if a, e := acct.Get(x, key(3)); e != api.OK || a != want {
			t.Errorf("at root %d: %v, error %d, want %v", root, a, e, want)
		}
	}
}

// P10.2: Set.

func TestSetTellsTheState(t *testing.T) {
	for what, b := range books() {
		x := stateOf(b)
		for _, k := range keysAbout(b) {
			for _, a := range []api.Account{{}, account(0, 1), account(1, 0), account(greatest, greatest), b[k]} {
				got, e := acct.Set(x, k, a)
				wantState(t, fmt.Sprintf("Set of %x to %v in %s", k, a, what), x, got, e, b.with(k, a))
			}
		}
	}
}

func TestSetOfEachEdge(t *testing.T) {
	x := stateOf(example())
	for _, a := range edges() {
		for _, k := range []api.Digest{key(3), key(4)} {
			got, e := acct.Set(x, k, a)
			wantState(t, fmt.Sprintf("Set of %x to %v", k, a), x, got, e, example().with(k, a))
		}
	}
}

func TestSetToZeroOfNoneIsTheStateItself(t *testing.T) {
	for what, b := range books() {
		for _, x := range []api.Tree{stateOf(b), laidBehind(leaves(3), b.pairs())} {
			for _, k := range keysAbout(b) {
				if _, has := b[k]; has {
					continue
				}
				if got, e := acct.Set(x, k, api.Account{}); e != api.OK || !alike(got, x) {
					t.Errorf("Set of %x to zero in %s: error %d, %s", k, what, e, brief(got))
				}
			}
		}
	}
}

func TestSetInFullStates(t *testing.T) {
	b := example()
	last, full, most := sized(api.MaxNodes-room, b), sized(api.MaxNodes-room+1, b), sized(api.MaxNodes, b)
	for _, k := range []api.Digest{key(3), key(4)} {
		for _, a := range []api.Account{{}, account(5, 5), b[k]} {
			what := fmt.Sprintf("Set of %x to %v", k, a)
			got, e := acct.Set(last, k, a)
			wantState(t, what, last, got, e, b.with(k, a))
			for _, x := range []api.Tree{full, most} {
				got, e = acct.Set(x, k, a)
				if k == key(4) && a == (api.Account{}) {
					if e != api.OK || !alike(got, x) {
						t.Errorf("%s, of none, in %d nodes: error %d, %s", what, len(x.Nodes), e, brief(got))
					}
				} else {
					wantError(t, fmt.Sprint(what, " in ", len(x.Nodes), " nodes"), got, e, api.ErrFull)
				}
			}
		}
	}
}

// P10.2: Total.

func wantTotal(t *testing.T, what string, x api.Tree, b book) {
	t.Helper()
	wantHigh, wantLow := b.total()
	if high, low, e := acct.Total(x); high != wantHigh || low != wantLow || e != api.OK {
		t.Errorf("Total of %s: %d, %d, error %d, want %d, %d", what, high, low, e, wantHigh, wantLow)
	}
}

func TestTotalIsTheSum(t *testing.T) {
	for what, b := range books() {
		wantTotal(t, what, stateOf(b), b)
		wantTotal(t, what+", and others elsewhere", laidBehind(stateOf(hashedBook(5)).Nodes, b.pairs()), b)
	}
	wantTotal(t, "a full state", sized(api.MaxNodes, example()), example())
}

func TestTotalsAboutTheEdge(t *testing.T) {
	for _, c := range []struct{ a, b, high, low uint64 }{
		{0, 0, 0, 0}, {1, 2, 0, 3}, {greatest, 0, 0, greatest}, {greatest, 1, 1, 0}, {1, greatest, 1, 0},
		{1 << 63, 1 << 63, 1, 0}, {1 << 63, 1<<63 - 1, 0, greatest}, {greatest, 2, 1, 1},
	} {
		x := stateOf(book{key(3): account(1, c.a), key(200): account(greatest, c.b)})
		if high, low, e := acct.Total(x); high != c.high || low != c.low || e != api.OK {
			t.Errorf("Total of %d and %d: %d, %d, error %d", c.a, c.b, high, low, e)
		}
	}
	const n = 700
	x := stateOf(evenBook(n, account(greatest, greatest)))
	if high, low, e := acct.Total(x); high != n-1 || low != greatest-n+1 || e != api.OK {
		t.Errorf("Total of %d balances of 2^64 less 1: %d, %d, error %d", n, high, low, e)
	}
}

// P10.3.

// What stands behind a list's end, or a value's, is its caller's: neither read nor changed.
func roomyBytes(b []byte) []byte {
	out := append(make([]byte, 0, len(b)+8), b...)
	copy(out[len(out):cap(out)], "beyond!!")
	return out
}

func roomy(t api.Tree) api.Tree {
	out := make([]api.Node, 0, len(t.Nodes)+3)
	for _, at := range t.Nodes {
		at.Value = roomyBytes(at.Value)
		out = append(out, at)
	}
	for i := range cap(out) - len(out) {
		out[:cap(out)][len(out)+i] = leafOf(key(byte(100+i)), []byte("beyond"))
	}
	return api.Tree{Nodes: out, Root: t.Root}
}

func wholly(t api.Tree) string {
	b := fmt.Append(nil, t.Root, " ", len(t.Nodes))
	for _, at := range t.Nodes[:cap(t.Nodes)] {
		b = fmt.Appendf(b, "%t %x %d: %x %d %d\n", at.Leaf, at.Key, len(at.Value), at.Value[:cap(at.Value)], at.Left, at.Right)
	}
	return string(b)
}

func overwriteBytes(b []byte) {
	b = b[:cap(b)]
	for i := range b {
		b[i] ^= 0xff
	}
}

// Also what an append to it would write to.
func overwrite(t api.Tree) {
	nodes := t.Nodes[:cap(t.Nodes)]
	for i := range nodes {
		overwriteBytes(nodes[i].Value)
		nodes[i] = leafOf(key(99), []byte("overwritten"))
	}
}

func TestWhatIsHandedInStays(t *testing.T) {
	all := []api.Tree{{}, stateOf(example()), stateOf(combBook(hashed(1))), laidBehind(leaves(5), hashedBook(30).pairs())}
	for _, some := range []map[string]api.Tree{wrongTrees(), wrongStates()} {
		for _, x := range some {
			if len(x.Nodes) < 3000 {
				all = append(all, x)
			}
		}
	}
	for _, x := range all {
		in := roomy(x)
		before := wholly(in)
		acct.Check(in)
		acct.Total(in)
		for _, k := range []api.Digest{key(3), key(4), hashed(1), hashed(7)} {
			acct.Get(in, k)
			acct.Set(in, k, api.Account{})
			acct.Set(in, k, account(5, 5))
		}
		if wholly(in) != before {
			t.Errorf("a tree of %d nodes is changed", len(x.Nodes))
		}
	}
}

func TestBytesThatAreHandedInStay(t *testing.T) {
	for _, n := range []int{0, 1, 8, 15, 16, 17, 64} {
		in := roomyBytes(counted(n))
		before := string(in[:cap(in)])
		acct.Read(in)
		if string(in[:cap(in)]) != before {
			t.Errorf("%d bytes are changed", n)
		}
	}
}

func TestBytesAreNewMemory(t *testing.T) {
	for _, a := range edges() {
		first, second := acct.Bytes(a), acct.Bytes(a)
		overwriteBytes(first)
		if third := acct.Bytes(a); !bytes.Equal(second, bytesOf(a)) || !bytes.Equal(third, bytesOf(a)) {
			t.Errorf("the bytes of %v are not new memory: %v, %v", a, second, third)
		}
	}
}

// What is answered is overwritten, and changes neither the state nor what is answered
// behind it; nor is it changed with the state.
func TestStatesAreNewMemory(t *testing.T) {
	b := example()
	for _, k := range []api.Digest{key(3), key(4), key(200)} {
		for _, a := range []api.Account{{}, account(5, 5), b[k]} {
			what := fmt.Sprintf("Set of %x to %v", k, a)
			in := roomy(stateOf(b))
			before := wholly(in)
			first, _ := acct.Set(in, k, a)
			second, e := acct.Set(in, k, a)
			wantState(t, what, in, second, e, b.with(k, a))
			overwrite(first)
			if wholly(in) != before {
				t.Errorf("%s: what is answered is not new memory", what)
			}
			third, e := acct.Set(in, k, a)
			wantState(t, what+" again", in, third, e, b.with(k, a))
			overwrite(in)
			wantState(t, what+", the state overwritten", stateOf(b), second, api.OK, b.with(k, a))
		}
	}
}

// P10.4.

// Bytes that are read are the account's alone: there is one way.
func TestBytesAndReadTurnEachOther(t *testing.T) {
	random := rand.New(rand.NewSource(10))
	for range 2000 {
		a := account(random.Uint64()>>random.Intn(64), random.Uint64()>>random.Intn(64))
		if got, e := acct.Read(acct.Bytes(a)); got != a || (e == api.OK) != (a != api.Account{}) {
			t.Errorf("Read of the Bytes of %v: %v, error %d", a, got, e)
		}
		b := make([]byte, 16)
		random.Read(b)
		if got, e := acct.Read(b); e == api.OK && !bytes.Equal(acct.Bytes(got), b) {
			t.Errorf("Bytes of the Read of %v: %v", b, got)
		}
	}
}

func TestWhatIsSetIsGotAndAllElseStays(t *testing.T) {
	random := rand.New(rand.NewSource(11))
	for range 20 {
		x, b := api.Tree{}, book{}
		var keys []api.Digest
		for i := range 12 {
			keys = append(keys, hashed(random.Int()), turned(hashed(i), random.Intn(256)), hashed(i))
		}
		for step := range 60 {
			k, a := keys[random.Intn(len(keys))], randomAccount(random)
			next, e := acct.Set(x, k, a)
			if e != api.OK {
				t.Fatalf("step %d: error %d", step, e)
			}
			wantGot(t, x, next, b, k, a, keys)
			x, b = next, b.with(k, a)
			wantTotal(t, "a walk", x, b)
		}
		if e := acct.Check(x); e != api.OK {
			t.Errorf("a walk's end is no state: error %d", e)
		}
	}
}

// Often zero, and often so great that the total runs over 2^64.
func randomAccount(random *rand.Rand) api.Account {
	if random.Intn(3) == 0 {
		return api.Account{}
	}
	return account(random.Uint64()>>random.Intn(65), random.Uint64()>>random.Intn(65))
}

// All keys are asked, in the state, and in the version that was there ahead of it.
func wantGot(t *testing.T, old, next api.Tree, b book, k api.Digest, a api.Account, keys []api.Digest) {
	t.Helper()
	version, e := tree.At(next, old.Root)
	if e != api.OK {
		t.Fatalf("the version ahead: error %d", e)
	}
	for _, other := range keys {
		want := b[other]
		if got, e := acct.Get(version, other); e != api.OK || got != want {
			t.Errorf("Get of %x ahead of Set: %v, error %d, want %v", other, got, e, want)
		}
		if other == k {
			want = a
		}
		if got, e := acct.Get(next, other); e != api.OK || got != want {
			t.Errorf("Get of %x behind Set: %v, error %d, want %v", other, got, e, want)
		}
	}
}

// The total turns by what the balance does, up or down, across 2^64.
func TestTheTotalTurnsByTheBalance(t *testing.T) {
	b := book{hashed(1): account(1, greatest), hashed(2): account(1, greatest), hashed(3): account(1, 3)}
	x := stateOf(b)
	wantTotal(t, "the beginning", x, b)
	for _, balance := range []uint64{0, 1, 2, 4, greatest, greatest - 1, 1 << 63} {
		for _, k := range []api.Digest{hashed(1), hashed(3), hashed(4)} {
			for _, nonce := range []uint64{0, 1, greatest} {
				a := account(nonce, balance)
				got, e := acct.Set(x, k, a)
				wantState(t, fmt.Sprint("Set of ", a), x, got, e, b.with(k, a))
				wantTotal(t, fmt.Sprint("Set of ", a), got, b.with(k, a))
			}
		}
	}
}

// States that are reached in any order, by way of others, have the same accounts, and
// so one sum.
func TestTheOrderOfSetsCountsForNothing(t *testing.T) {
	b := hashedBook(40)
	want, e := tree.Sum(stateOf(b))
	if e != api.OK {
		t.Fatalf("Sum: error %d", e)
	}
	random := rand.New(rand.NewSource(12))
	for range 5 {
		var x api.Tree
		for _, i := range random.Perm(len(b) + 20) {
			// Those behind the book's are dropped again.
			x, _ = acct.Set(x, hashed(i), account(9, 9))
		}
		for _, i := range random.Perm(len(b) + 20) {
			x, _ = acct.Set(x, hashed(i), b[hashed(i)])
		}
		if sum, e := tree.Sum(x); e != api.OK || sum != want {
			t.Errorf("the sum is %x, error %d, want %x", sum, e, want)
		}
	}
}

// P1: whatever it is handed, each call ends; what is told is held against the words.

// A node of whatever values, many of which may be.
func randomNode(random *rand.Rand, n int) api.Node {
	at := api.Node{Left: random.Intn(n + 1), Right: random.Intn(n + 1)}
	if random.Intn(3) > 0 {
		at = leafOf(key(byte(random.Intn(4)<<6)), bytesOf(account(uint64(random.Intn(3)), 0)))
	}
	if random.Intn(40) == 0 {
		at.Value = counted(random.Intn(70))
	}
	if random.Intn(60) == 0 {
		at.Left = random.Intn(5) - 2
	}
	return at
}

func isState(x api.Tree) bool {
	if tree.Check(x) != api.OK {
		return false
	}
	return !slices.ContainsFunc(standsFor(x, x.Root), func(p api.Pair) bool {
		return len(p.Value) != 16 || bytes.Equal(p.Value, make([]byte, 16))
	})
}

func TestTreesOfWhateverNodes(t *testing.T) {
	random := rand.New(rand.NewSource(13))
	var states int
	for range 30000 {
		var x api.Tree
		for n := range random.Intn(6) {
			x.Nodes = append(x.Nodes, randomNode(random, n))
		}
		x.Root = random.Intn(len(x.Nodes)+3) - 1
		want := api.ErrBad
		if isState(x) {
			states++
			want = api.OK
		}
		k := key(byte(random.Intn(4) << 6))
		_, got := acct.Get(x, k)
		_, set := acct.Set(x, k, account(uint64(random.Intn(2)), 0))
		_, _, total := acct.Total(x)
		if e := acct.Check(x); e != want || got != want || set != want || total != want {
			t.Fatalf("errors %d, %d, %d and %d, want %d: %s", e, got, set, total, want, brief(x))
		}
	}
	if states < 1000 {
		t.Errorf("only %d of them are states", states)
	}
}
