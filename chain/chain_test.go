package chain_test

import (
	"bytes"
	"encoding/binary"
	"fmt"
	"maps"
	"math"
	"math/rand"
	"slices"
	"testing"

	"beadroll/acct"
	"beadroll/api"
	"beadroll/block"
	"beadroll/chain"
	"beadroll/header"
	"beadroll/pairs"
	"beadroll/sha"
	"beadroll/tag"
	"beadroll/tree"
	"beadroll/tx"
)

const greatest = math.MaxUint64

func hashed(i int) api.Digest {
	return sha.Of([]byte(fmt.Sprint("chain ", i)))
}

func turned(k api.Digest, i int) api.Digest {
	k[i/8] ^= 128 >> (i % 8)
	return k
}

// No byte is like the one beside it, so that one that is left out or turned round shows.
func counted(n int) []byte {
	b := make([]byte, n)
	for i := range b {
		b[i] = byte(i*7 + 3)
	}
	return b
}

func account(nonce, balance uint64) api.Account {
	return api.Account{Nonce: nonce, Balance: balance}
}

// The public digest of the person i, and the key of its account.
func pub(i int) api.Digest {
	return hashed(1000 + i)
}

func who(i int) api.Digest {
	return acct.Key(pub(i))
}

var (
	ann = who(0)
	bob = who(1)
	cid = who(2)
	box = who(3)
)

// A transaction of the person i's, signed.
func paying(i int, to api.Digest, nonce, amount, fee uint64) api.Tx {
	return tx.Sign(api.Tx{Pub: pub(i), To: to, Nonce: nonce, Amount: amount, Fee: fee})
}

func gift(number uint64, to api.Digest, amount uint64) api.Deposit {
	return api.Deposit{Number: number, To: to, Amount: amount}
}

// So many deposits, each of another number.
func gifts(n int, to api.Digest, amount uint64) []api.Deposit {
	var l []api.Deposit
	for i := range n {
		l = append(l, gift(uint64(i), to, amount))
	}
	return l
}

// So many transactions of the person i's, by their nonces from the first one on.
func payments(n, i int, to api.Digest, nonce, amount, fee uint64) []api.Tx {
	var l []api.Tx
	for at := range uint64(n) {
		l = append(l, paying(i, to, nonce+at, amount, fee))
	}
	return l
}

func body(d []api.Deposit, x ...api.Tx) api.Body {
	return api.Body{Deposits: d, Txs: x}
}

func receipts(n int) []api.Receipt {
	var l []api.Receipt
	for i := range n {
		l = append(l, api.Receipt{Kind: api.RecDeposit, Id: hashed(i)})
	}
	return l
}

// A book tells the accounts that a chain begins with.
type book map[api.Digest]api.Account

func (b book) pairs() []api.Pair {
	var l []api.Pair
	for _, k := range slices.SortedFunc(maps.Keys(b), func(k, l api.Digest) int { return bytes.Compare(k[:], l[:]) }) {
		l = append(l, api.Pair{Key: k, Value: acct.Bytes(b[k])})
	}
	return l
}

// So many accounts of nobody who is named.
func crowd(n int) book {
	b := book{}
	for i := range n {
		k := hashed(i)
		b[k] = account(binary.BigEndian.Uint64(k[3:])>>(i%64), binary.BigEndian.Uint64(k[19:])>>32|1)
	}
	return b
}

// As many keys as may be, all of them below forks as deep as may be.
func deepest() book {
	b := book{}
	for i := range api.MaxPairs {
		k := ann
		binary.BigEndian.PutUint16(k[30:], uint16(i))
		b[k] = account(uint64(i), 1)
	}
	return b
}

// Keys of which each parts from k at another bit.
func comb(k api.Digest) book {
	b := book{}
	for i := range api.Depth {
		b[turned(k, i)] = account(uint64(i), 1)
	}
	return b
}

func begun(b book) api.Chain {
	c, e := chain.New(b.pairs())
	if e != api.OK {
		panic(fmt.Sprint("a chain is begun: error ", int(e)))
	}
	return c
}

func added(c api.Chain, all ...api.Body) api.Chain {
	for _, b := range all {
		out, e := chain.Add(c, b, box)
		if e != api.OK {
			panic(fmt.Sprint("a block is added: error ", int(e)))
		}
		c = out
	}
	return c
}

// Bodies of which each code is told of something, behind a chain that begins with few.
func busyBodies() []api.Body {
	return []api.Body{
		body(gifts(2, bob, 5), paying(0, bob, 0, 7, 2), paying(0, cid, 1, 9, 1)),
		{},
		body([]api.Deposit{gift(9, cid, 1), gift(10, ann, greatest)}),
		body(nil, paying(1, ann, 0, 900, 2), paying(2, ann, 0, 4, 4), paying(0, who(9), 2, 0, 0)),
		body(gifts(1, bob, 0)),
	}
}

func few() book {
	return book{ann: account(0, 100), bob: account(0, 7), hashed(3): account(7, 1)}
}

func busy() api.Chain {
	return added(begun(few()), busyBodies()...)
}

// So many links, all but the first one of an empty body.
func long(n int) api.Chain {
	return added(begun(few()), make([]api.Body, n-1)...)
}

func leafOf(k api.Digest, v []byte) api.Node {
	return api.Node{Leaf: true, Key: k, Value: slices.Clone(v)}
}

// The tree has just so many nodes, to some of which nothing leads.
func sized(c api.Chain, n int) api.Chain {
	more := slices.Repeat([]api.Node{leafOf(hashed(77), []byte("elsewhere"))}, n-len(c.Tree.Nodes))
	return with(c, func(c *api.Chain) { c.Tree.Nodes = append(c.Tree.Nodes, more...) })
}

// A copy that is not chain's own.
func copied(c api.Chain) api.Chain {
	out := api.Chain{Tree: api.Tree{Nodes: slices.Clone(c.Tree.Nodes), Root: c.Tree.Root}, Links: slices.Clone(c.Links)}
	for i := range out.Tree.Nodes {
		out.Tree.Nodes[i].Value = slices.Clone(out.Tree.Nodes[i].Value)
	}
	for i, l := range out.Links {
		out.Links[i].Body = api.Body{Deposits: slices.Clone(l.Body.Deposits), Txs: slices.Clone(l.Body.Txs)}
		out.Links[i].Receipts = slices.Clone(l.Receipts)
	}
	return out
}

func with(c api.Chain, changes ...func(c *api.Chain)) api.Chain {
	out := copied(c)
	for _, f := range changes {
		f(&out)
	}
	return out
}

// mend makes each link's Parent the hash of the one ahead.
func mend(c *api.Chain) {
	for i := range c.Links[1:] {
		c.Links[i+1].Header.Parent, _ = header.Hash(c.Links[i].Header)
	}
}

func at(i int, f func(l *api.Link)) func(c *api.Chain) {
	return func(c *api.Chain) { f(&c.Links[i]) }
}

func headed(i int, f func(h *api.Header)) func(c *api.Chain) {
	return at(i, func(l *api.Link) { f(&l.Header) })
}

// With so many receipts, and as many in its header.
func receiptsAt(i, n int) func(c *api.Chain) {
	return at(i, func(l *api.Link) { l.Receipts, l.Header.Many = receipts(n), n })
}

func rooted(i, root int) func(c *api.Chain) {
	return func(c *api.Chain) {
		c.Links[i].Root = root
		if i == len(c.Links)-1 {
			c.Tree.Root = root
		}
	}
}

func noded(f func(at *api.Node)) func(c *api.Chain) {
	return func(c *api.Chain) {
		c.Tree.Nodes = append(c.Tree.Nodes, api.Node{})
		f(&c.Tree.Nodes[len(c.Tree.Nodes)-1])
	}
}

// The link's version is one in which k has that value, be it an account's or not.
func valued(i int, k api.Digest, v []byte) func(c *api.Chain) {
	return func(c *api.Chain) {
		version, _ := tree.At(c.Tree, c.Links[i].Root)
		out, _ := tree.Put(version, k, v)
		root := c.Tree.Root
		c.Tree = api.Tree{Nodes: out.Nodes, Root: root}
		rooted(i, out.Root)(c)
	}
}

// By the chapter's words, and not by chain.
func mayBe(c api.Chain) bool {
	if len(c.Links) < 1 || len(c.Links) > 256 {
		return false
	}
	for i, l := range c.Links {
		version, e := tree.At(c.Tree, l.Root)
		switch {
		case l.Header.Height != i,
			i > 0 && !header.Follows(l.Header, c.Links[i-1].Header),
			e != api.OK || acct.Check(version) != api.OK,
			len(l.Receipts) != l.Header.Many,
			len(l.Body.Deposits) > 16 || len(l.Body.Txs) > 16:
			return false
		}
		for _, x := range l.Body.Txs {
			if tx.Check(x) != api.OK {
				return false
			}
		}
	}
	return c.Tree.Root == c.Links[len(c.Links)-1].Root
}

// Likewise, of a chain that may be, and has room for blocks.
func isSound(c api.Chain, box api.Digest) bool {
	for i, l := range c.Links {
		own, _ := tree.At(c.Tree, l.Root)
		if i == 0 {
			sum, _ := tree.Sum(own)
			if l.Header != (api.Header{State: sum, Rows: tag.None()}) || len(l.Body.Deposits)+len(l.Body.Txs)+len(l.Receipts) > 0 {
				return false
			}
			continue
		}
		version, _ := tree.At(c.Tree, c.Links[i-1].Root)
		out, h, told, e := block.Apply(version, c.Links[i-1].Header, l.Body, box)
		if e != api.OK || h != l.Header || !slices.Equal(told, l.Receipts) || !standSame(out, own) {
			return false
		}
	}
	return true
}

func standSame(a, b api.Tree) bool {
	l, e := tree.Pairs(a)
	m, f := tree.Pairs(b)
	return e == f && pairs.Same(l, m)
}

func alikeNodes(a, b api.Node) bool {
	return a.Leaf == b.Leaf && a.Key == b.Key && bytes.Equal(a.Value, b.Value) && a.Left == b.Left && a.Right == b.Right
}

func alikeTrees(a, b api.Tree) bool {
	return a.Root == b.Root && slices.EqualFunc(a.Nodes, b.Nodes, alikeNodes)
}

func alikeBlocks(a, b api.Link) bool {
	return a.Header == b.Header && slices.Equal(a.Body.Deposits, b.Body.Deposits) &&
		slices.Equal(a.Body.Txs, b.Body.Txs) && slices.Equal(a.Receipts, b.Receipts)
}

func alikeLinks(a, b api.Link) bool {
	return a.Root == b.Root && alikeBlocks(a, b)
}

func alike(a, b api.Chain) bool {
	return alikeTrees(a.Tree, b.Tree) && slices.EqualFunc(a.Links, b.Links, alikeLinks)
}

func isNothing(c api.Chain) bool {
	return len(c.Tree.Nodes) == 0 && c.Tree.Root == 0 && len(c.Links) == 0
}

func brief(c api.Chain) string {
	s := fmt.Sprint(len(c.Links), " links, root ", c.Tree.Root, " of ", len(c.Tree.Nodes), " nodes")
	for _, l := range c.Links[:min(len(c.Links), 8)] {
		s += fmt.Sprint("; height ", l.Header.Height, ", root ", l.Root, ", many ", l.Header.Many, ", ", len(l.Body.Deposits), "+", len(l.Body.Txs), " parts, ", len(l.Receipts), " receipts")
	}
	return s
}

// wantChain asks Check and Sound, too, of what is answered.
func wantChain(t *testing.T, what string, got api.Chain, e api.Errno, want api.Chain) {
	t.Helper()
	if e != api.OK || !alike(got, want) {
		t.Errorf("%s: error %d, %s, want %s", what, e, brief(got), brief(want))
	}
	if e == api.OK && chain.Check(got) != api.OK {
		t.Errorf("%s: what is answered may not be: %s", what, brief(got))
	}
}

// Each call that asks Check first tells that of c, and nothing beside.
func wantEachError(t *testing.T, what string, want api.Errno, c api.Chain, h int, b api.Body) {
	t.Helper()
	if head, e := chain.Head(c); e != want || head != (api.Header{}) {
		t.Errorf("%s: Head: error %d, %v, want error %d", what, e, head, want)
	}
	wantArg(t, what, want, c, h)
	wantNoBlock(t, what, want, c, b, box)
}

func wantArg(t *testing.T, what string, want api.Errno, c api.Chain, h int) {
	t.Helper()
	if state, e := chain.State(c, h); e != want || len(state.Nodes) != 0 || state.Root != 0 {
		t.Errorf("%s: State of %d: error %d, root %d of %d, want error %d", what, h, e, state.Root, len(state.Nodes), want)
	}
	if out, e := chain.Cut(c, h); e != want || !isNothing(out) {
		t.Errorf("%s: Cut to %d: error %d, %s, want error %d", what, h, e, brief(out), want)
	}
}

func wantNoBlock(t *testing.T, what string, want api.Errno, c api.Chain, b api.Body, box api.Digest) {
	t.Helper()
	if out, e := chain.Add(c, b, box); e != want || !isNothing(out) {
		t.Errorf("%s: Add: error %d, %s, want error %d", what, e, brief(out), want)
	}
}

// wantAdded adds, and holds all that is told against block.Apply.
func wantAdded(t *testing.T, what string, c api.Chain, b api.Body, box api.Digest) (api.Chain, api.Errno) {
	t.Helper()
	x, h, l, wrong := block.Apply(c.Tree, c.Links[len(c.Links)-1].Header, b, box)
	if wrong != api.OK {
		wantNoBlock(t, what, wrong, c, b, box)
		return c, wrong
	}
	out, e := chain.Add(c, b, box)
	want := api.Chain{Tree: x, Links: append(slices.Clone(c.Links), api.Link{Header: h, Root: x.Root, Body: b, Receipts: l})}
	wantChain(t, what, out, e, want)
	return out, e
}

func wantCut(t *testing.T, what string, c api.Chain, h int) api.Chain {
	t.Helper()
	out, e := chain.Cut(c, h)
	wantChain(t, what, out, e, api.Chain{Tree: api.Tree{Nodes: c.Tree.Nodes, Root: c.Links[h].Root}, Links: c.Links[:h+1]})
	return out
}

// The chapter's examples.

func TestExamples(t *testing.T) {
	c, e := chain.New(nil)
	h, f := chain.Head(c)
	if want := (api.Header{State: tag.None(), Rows: tag.None()}); e != api.OK || f != api.OK || h != want {
		t.Errorf("Head of New of nothing: errors %d and %d, %v", e, f, h)
	}
	d, e := chain.Add(c, api.Body{}, api.Digest{})
	if h, f := chain.Head(d); e != api.OK || f != api.OK || h.Height != 1 {
		t.Errorf("Add of an empty body: errors %d and %d, height %d", e, f, h.Height)
	}
	back, e := chain.Cut(d, 0)
	if h, f := chain.Head(back); e != api.OK || f != api.OK || h.Height != 0 {
		t.Errorf("Cut of it to 0: errors %d and %d, height %d", e, f, h.Height)
	}
	wantArg(t, "the example", api.ErrArg, d, 2)
	wantArg(t, "the example", api.ErrArg, d, -1)
	if c, e := chain.New([]api.Pair{{Key: ann, Value: []byte("no account")}}); e != api.ErrBad || !isNothing(c) {
		t.Errorf("New of a value that is no account: error %d, %s", e, brief(c))
	}
}

// P17.1: New.

func wantBegun(t *testing.T, what string, begin []api.Pair) {
	t.Helper()
	c, e := chain.New(begin)
	if e != api.OK || len(c.Links) != 1 {
		t.Errorf("%s: error %d, %s", what, e, brief(c))
		return
	}
	root, _ := pairs.Root(begin)
	want := api.Link{Header: api.Header{State: root, Rows: tag.None()}, Root: c.Tree.Root}
	if !alikeLinks(c.Links[0], want) {
		t.Errorf("%s: the link %v, want %v", what, c.Links[0], want)
	}
	if l, e := tree.Pairs(c.Tree); e != api.OK || !pairs.Same(l, begin) {
		t.Errorf("%s: error %d, %d pairs, or others than it begins with", what, e, len(l))
	}
	if chain.Check(c) != api.OK || !chain.Sound(c, box) || !chain.Sound(c, api.Digest{}) {
		t.Errorf("%s: it may not be, or is not sound", what)
	}
}

func TestNew(t *testing.T) {
	for n := range 40 {
		wantBegun(t, fmt.Sprint(n, " accounts"), crowd(n).pairs())
	}
	wantBegun(t, "as many as may be", crowd(api.MaxPairs).pairs())
	wantBegun(t, "one less", crowd(api.MaxPairs-1).pairs())
	wantBegun(t, "the deepest ones", deepest().pairs())
	wantBegun(t, "a comb", comb(bob).pairs())
	wantBegun(t, "the last bit", book{ann: account(0, 1), turned(ann, 255): account(1, 0)}.pairs())
	wantBegun(t, "the first and the last key", book{{}: account(1, 0), api.Digest(bytes.Repeat([]byte{255}, 32)): account(greatest, greatest)}.pairs())
	wantBegun(t, "no list", []api.Pair{})
}

func TestNewOfNoAccounts(t *testing.T) {
	values := map[string][]byte{
		"none": nil, "one byte": counted(1), "15 bytes": counted(15), "17 bytes": counted(17), "as many as may be": counted(64),
		"too many": counted(65), "16 noughts": make([]byte, 16), "noughts, and one behind": append(make([]byte, 16), 1), "17 noughts": make([]byte, 17),
	}
	for what, v := range values {
		for place := range 5 {
			begin := crowd(5).pairs()
			begin[place].Value = v
			if c, e := chain.New(begin); e != api.ErrBad || !isNothing(c) {
				t.Errorf("%s at %d: error %d, %s", what, place, e, brief(c))
			}
		}
	}
	for what, begin := range map[string][]api.Pair{
		"too many":       crowd(api.MaxPairs + 1).pairs(),
		"a key twice":    slices.Repeat(crowd(1).pairs(), 2),
		"turned round":   {crowd(2).pairs()[1], crowd(2).pairs()[0]},
		"a last one out": append(crowd(5).pairs()[1:], crowd(5).pairs()[0]),
		"many too many":  slices.Repeat(crowd(1).pairs(), 100000),
	} {
		if c, e := chain.New(begin); e != api.ErrBad || !isNothing(c) {
			t.Errorf("%s: error %d, %s", what, e, brief(c))
		}
	}
}

// P17.1: Check.

// Each would be a chain that may be, but for one thing.
func wrongChains() map[string]api.Chain {
	c, one := busy(), begun(few())
	end, nodes := len(c.Links)-1, len(c.Tree.Nodes)
	leaf := slices.IndexFunc(c.Tree.Nodes, func(at api.Node) bool { return at.Leaf }) + 1
	unsigned := func(l *api.Link) { l.Body.Txs[1].Sign = turned(l.Body.Txs[1].Sign, 255) }
	all := map[string]api.Chain{
		"nothing":                    {},
		"a tree without links":       {Tree: c.Tree},
		"no links":                   {Tree: c.Tree, Links: []api.Link{}},
		"one link less than heights": with(c, func(c *api.Chain) { c.Links = c.Links[1:] }),
		"one is left out":            with(c, func(c *api.Chain) { c.Links = slices.Delete(c.Links, 2, 3) }),
		"one is there twice":         with(c, func(c *api.Chain) { c.Links = slices.Insert(c.Links, 2, c.Links[2]) }),
		"turned round":               with(c, func(c *api.Chain) { slices.Reverse(c.Links); c.Tree.Root = c.Links[end].Root }),
		"the last one is left out":   with(c, func(c *api.Chain) { c.Links = c.Links[:3] }),
		"a height of -1":             with(one, headed(0, func(h *api.Header) { h.Height = -1 })),
		"a first height of 1":        with(one, headed(0, func(h *api.Header) { h.Height = 1 })),
		"all heights one more":       with(c, lift(1), mend),
		"all heights one less":       with(c, lift(-1), mend),
		"too great at last":          with(c, lift(api.MaxHeight-end), mend),
		"the last height":            with(c, headed(end, func(h *api.Header) { h.Height++ })),
		"a height between":           with(c, headed(2, func(h *api.Header) { h.Height-- }), mend),
		"a last Parent":              with(c, headed(end, func(h *api.Header) { h.Parent = turned(h.Parent, 255) })),
		"a Parent between":           with(c, headed(3, func(h *api.Header) { h.Parent = turned(h.Parent, 0) })),
		"a State ahead":              with(c, headed(0, func(h *api.Header) { h.State = turned(h.State, 0) })),
		"Rows between":               with(c, headed(2, func(h *api.Header) { h.Rows = turned(h.Rows, 8) })),
		"a Parent ahead":             with(c, headed(0, func(h *api.Header) { h.Parent = hashed(1) })),
		"a Many that is greater":     with(c, headed(end, func(h *api.Header) { h.Many++ })),
		"a Many that is less":        with(c, headed(end, func(h *api.Header) { h.Many-- })),
		"a Many between":             with(c, headed(1, func(h *api.Header) { h.Many++ }), mend),
		"a Many of none":             with(c, headed(0, func(h *api.Header) { h.Many = 1 }), mend),
		"a Many of -1":               with(one, headed(0, func(h *api.Header) { h.Many = -1 })),
		"one receipt more":           with(c, at(2, func(l *api.Link) { l.Receipts = receipts(1) })),
		"one receipt less":           with(c, at(end, func(l *api.Link) { l.Receipts = nil })),
		"a first receipt":            with(one, at(0, func(l *api.Link) { l.Receipts = receipts(1) })),
		"257 receipts at last":       with(c, receiptsAt(end, 257)),
		"257 receipts ahead":         with(c, receiptsAt(0, 257), mend),
		"17 deposits":                with(c, at(end, func(l *api.Link) { l.Body.Deposits = gifts(17, ann, 1) })),
		"17 deposits ahead":          with(c, at(0, func(l *api.Link) { l.Body.Deposits = gifts(17, ann, 1) })),
		"17 transactions":            with(c, at(2, func(l *api.Link) { l.Body.Txs = payments(17, 0, ann, 0, 0, 0) })),
		"17 transactions ahead":      with(one, at(0, func(l *api.Link) { l.Body.Txs = payments(17, 0, ann, 0, 0, 0) })),
		"one is not signed":          with(c, at(1, unsigned)),
		"another one is not":         with(c, at(4, unsigned)),
		"the first one is not":       with(one, at(0, func(l *api.Link) { l.Body.Txs = make([]api.Tx, 1) })),
		"the last of 16 is not":      with(one, at(0, func(l *api.Link) { l.Body.Txs = payments(16, 0, ann, 0, 0, 0); l.Body.Txs[15].Fee++ })),
		"Root of the tree is none":   with(c, func(c *api.Chain) { c.Tree.Root = 0 }),
		"Root of the tree":           with(c, func(c *api.Chain) { c.Tree.Root = c.Links[0].Root }),
		"Root of the last link":      with(c, at(end, func(l *api.Link) { l.Root = c.Links[0].Root })),
		"a Root below 0":             with(c, rooted(2, -1)),
		"a last Root below 0":        with(c, rooted(end, -1)),
		"a first Root below 0":       with(one, rooted(0, -1)),
		"the least Root":             with(c, rooted(2, math.MinInt)),
		"a Root that is no node":     with(c, rooted(1, nodes+1)),
		"a last Root that is none":   with(c, rooted(end, nodes+1)),
		"the greatest Root":          with(c, rooted(0, math.MaxInt)),
		"a value that is none":       with(c, valued(2, ann, counted(15))),
		"a value too long":           with(c, valued(end, ann, counted(17))),
		"an account that is zero":    with(c, valued(0, cid, make([]byte, 16))),
		"a fork that is wrong":       with(c, noded(func(at *api.Node) { at.Left = leaf }), rooted(2, nodes+1)),
		"a leaf on a wrong road":     with(c, noded(func(at *api.Node) { at.Left, at.Right = leaf, leaf }), rooted(2, nodes+1)),
		"a node of nothing":          with(c, noded(func(at *api.Node) {})),
		"a fork that leads to it":    with(c, noded(func(at *api.Node) { at.Left, at.Right = 1, nodes+1 })),
		"a leaf with a long value":   with(c, noded(func(at *api.Node) { *at = leafOf(ann, counted(65)) })),
		"a leaf with no value":       with(c, noded(func(at *api.Node) { *at = leafOf(ann, nil) })),
		"one node too many":          sized(c, api.MaxNodes+1),
		"one link too many":          with(long(api.MaxLinks), oneMore),
		"many links":                 {Links: make([]api.Link, 100000)},
		"links of nothing":           {Links: make([]api.Link, 2)},
	}
	return all
}

func lift(by int) func(c *api.Chain) {
	return func(c *api.Chain) {
		for i := range c.Links {
			c.Links[i].Header.Height += by
		}
	}
}

// An empty block behind, though there be no place for it.
func oneMore(c *api.Chain) {
	parent := c.Links[len(c.Links)-1]
	t, h, l, _ := block.Apply(c.Tree, parent.Header, api.Body{}, box)
	c.Links = append(c.Links, api.Link{Header: h, Root: t.Root, Receipts: l})
}

func TestWrongChains(t *testing.T) {
	for what, c := range wrongChains() {
		if mayBe(c) {
			t.Errorf("%s: by the model it may be", what)
		}
		if e := chain.Check(c); e != api.ErrBad {
			t.Errorf("%s: error %d", what, e)
		}
		if chain.Sound(c, box) {
			t.Errorf("%s: it is sound", what)
		}
	}
}

// Each may be, but is not sound.
func unsoundChains() map[string]api.Chain {
	c, one := busy(), begun(few())
	end := len(c.Links) - 1
	other := func(l *api.Link) { l.Receipts[1].Id = turned(l.Receipts[1].Id, 255) }
	swap := func(l *api.Link) { l.Receipts[2], l.Receipts[3] = l.Receipts[3], l.Receipts[2] }
	empty := added(begun(book{}), api.Body{})
	return map[string]api.Chain{
		"a first Parent":              with(one, headed(0, func(h *api.Header) { h.Parent[31] = 1 })),
		"first Rows":                  with(one, headed(0, func(h *api.Header) { h.Rows = api.Digest{} })),
		"a first State":               with(one, headed(0, func(h *api.Header) { h.State = turned(h.State, 255) })),
		"a first State of none":       with(one, headed(0, func(h *api.Header) { h.State = tag.None() })),
		"a first deposit":             with(one, at(0, func(l *api.Link) { l.Body.Deposits = gifts(1, ann, 0) })),
		"16 first deposits":           with(one, at(0, func(l *api.Link) { l.Body.Deposits = gifts(16, ann, 0) })),
		"a first transaction":         with(one, at(0, func(l *api.Link) { l.Body.Txs = payments(1, 0, ann, 0, 0, 0) })),
		"16 first transactions":       with(one, at(0, func(l *api.Link) { l.Body.Txs = payments(16, 0, ann, 0, 0, 0) })),
		"a first receipt":             with(one, receiptsAt(0, 1)),
		"256 first receipts":          with(one, receiptsAt(0, 256)),
		"257 first receipts":          with(one, receiptsAt(0, 257)),
		"a first Root":                with(one, rooted(0, 0)),
		"a first Parent, and more":    with(c, headed(0, func(h *api.Header) { h.Parent[0] = 1 }), mend),
		"a first receipt, and more":   with(c, receiptsAt(0, 1), mend),
		"a first deposit, and more":   with(c, at(0, func(l *api.Link) { l.Body.Deposits = gifts(1, ann, 0) })),
		"a last State":                with(c, headed(end, func(h *api.Header) { h.State = turned(h.State, 0) })),
		"last Rows":                   with(c, headed(end, func(h *api.Header) { h.Rows = turned(h.Rows, 255) })),
		"a State between":             with(c, headed(2, func(h *api.Header) { h.State = turned(h.State, 0) }), mend),
		"Rows between":                with(c, headed(2, func(h *api.Header) { h.Rows = api.Digest{} }), mend),
		"one more receipt between":    with(c, receiptsAt(2, 1), mend),
		"256 receipts at last":        with(c, receiptsAt(end, 256)),
		"a receipt's Kind":            with(c, at(1, func(l *api.Link) { l.Receipts[0].Kind = api.RecTx })),
		"a receipt's Kind of nothing": with(c, at(end, func(l *api.Link) { l.Receipts[0].Kind = 77 })),
		"a receipt's Id":              with(c, at(1, other)),
		"a later receipt's Id":        with(c, at(4, other)),
		"a receipt's Code":            with(c, at(4, func(l *api.Link) { l.Receipts[0].Code = api.OK })),
		"a last receipt's Code":       with(c, at(end, func(l *api.Link) { l.Receipts[0].Code = api.ErrOver })),
		"receipts turned round":       with(c, at(1, swap)),
		"a deposit's Number":          with(c, at(1, func(l *api.Link) { l.Body.Deposits[1].Number = 7 })),
		"a deposit's Amount":          with(c, at(1, func(l *api.Link) { l.Body.Deposits[1].Amount = 6 })),
		"a deposit's To":              with(c, at(end, func(l *api.Link) { l.Body.Deposits[0].To = cid })),
		"deposits turned round":       with(c, at(1, func(l *api.Link) { slices.Reverse(l.Body.Deposits) })),
		"one deposit less":            with(c, at(end, func(l *api.Link) { l.Body.Deposits = nil })),
		"one deposit more":            with(c, at(2, func(l *api.Link) { l.Body.Deposits = gifts(1, ann, 0) })),
		"one transaction less":        with(c, at(4, func(l *api.Link) { l.Body.Txs = l.Body.Txs[:2] })),
		"another transaction":         with(c, at(4, func(l *api.Link) { l.Body.Txs[2] = paying(0, who(8), 2, 0, 0) })),
		"one that was paid":           with(c, at(4, func(l *api.Link) { l.Body.Txs[2] = paying(0, cid, 1, 9, 1) })),
		"transactions turned round":   with(c, at(4, func(l *api.Link) { slices.Reverse(l.Body.Txs) })),
		"a body that is refused":      with(c, at(2, func(l *api.Link) { l.Body.Txs = payments(1, 0, bob, 9, 0, 0) })),
		"a body refused on nothing":   with(empty, at(1, func(l *api.Link) { l.Body.Txs = payments(1, 0, bob, 9, 0, 0) })),
		"a version between":           with(c, rooted(2, c.Links[0].Root)),
		"a version of none":           with(c, rooted(2, 0)),
		"the version ahead":           with(c, rooted(4, c.Links[3].Root)),
		"a first version":             with(c, rooted(0, c.Links[1].Root)),
		"a last version":              with(c, rooted(end, c.Links[1].Root)),
		"a last version of none":      with(c, rooted(end, 0)),
		"a version of one more":       with(c, valued(end, hashed(4), acct.Bytes(account(0, 1)))),
		"a version of another":        with(c, valued(2, ann, acct.Bytes(account(2, 1)))),
		"a first version of another":  with(c, valued(0, ann, acct.Bytes(account(0, 101)))),
		"one less than it began with": with(c, dropped(0, hashed(3))),
		"one less at last":            with(c, dropped(end, hashed(3))),
	}
}

func dropped(i int, k api.Digest) func(c *api.Chain) {
	return func(c *api.Chain) {
		version, _ := tree.At(c.Tree, c.Links[i].Root)
		out, _ := tree.Drop(version, k)
		root := c.Tree.Root
		c.Tree = api.Tree{Nodes: out.Nodes, Root: root}
		rooted(i, out.Root)(c)
	}
}

func soundChains() map[string]api.Chain {
	c := busy()
	end := len(c.Links) - 1
	same := func(i int) func(c *api.Chain) { return valued(i, hashed(3), acct.Bytes(account(7, 1))) }
	return map[string]api.Chain{
		"of nothing":               begun(book{}),
		"of few":                   begun(few()),
		"of many":                  begun(crowd(200)),
		"nothing, and a block":     added(begun(book{}), api.Body{}),
		"nothing, and a deposit":   added(begun(book{}), body(gifts(1, ann, 5))),
		"a full body":              added(begun(few()), body(gifts(16, ann, 5), payments(16, 0, bob, 0, 1, 1)...)),
		"a comb":                   added(begun(comb(ann)), body(gifts(1, ann, 5))),
		"busy":                     c,
		"long":                     long(50),
		"as long as may be":        long(api.MaxLinks),
		"the same at last":         with(c, same(end)),
		"the same ahead":           with(c, same(0)),
		"the same between":         with(c, same(3)),
		"the same everywhere":      with(c, same(0), same(1), same(2), same(3), same(4), same(5)),
		"a Root for one like it":   with(c, rooted(2, c.Links[1].Root)),
		"cut":                      wrongless(chain.Cut(c, 2)),
		"cut and added to":         added(wrongless(chain.Cut(c, 2)), busyBodies()[2:]...),
		"nodes behind":             sized(c, len(c.Tree.Nodes)+5),
		"nodes behind that is one": with(c, noded(func(at *api.Node) { *at = leafOf(ann, counted(64)) })),
		"lists that are empty":     with(begun(few()), at(0, func(l *api.Link) { l.Body, l.Receipts = body([]api.Deposit{}, []api.Tx{}...), []api.Receipt{} })),
	}
}

func wrongless(c api.Chain, e api.Errno) api.Chain {
	if e != api.OK {
		panic(fmt.Sprint("error ", int(e)))
	}
	return c
}

// P17.1: Sound.

func TestSound(t *testing.T) {
	for what, c := range soundChains() {
		if !mayBe(c) || !isSound(c, box) {
			t.Errorf("%s: by the model it may not be, or is not sound", what)
		}
		if e := chain.Check(c); e != api.OK || !chain.Sound(c, box) {
			t.Errorf("%s: error %d, or it is not sound", what, e)
		}
	}
}

func TestUnsound(t *testing.T) {
	for what, c := range unsoundChains() {
		if !mayBe(c) || isSound(c, box) {
			t.Errorf("%s: by the model it may not be, or is sound", what)
		}
		if e := chain.Check(c); e != api.OK || chain.Sound(c, box) {
			t.Errorf("%s: error %d, or it is sound", what, e)
		}
	}
}

// Who gets the fees is told by nothing in the chain: it is just the box that fits.
func TestSoundWithAnotherBox(t *testing.T) {
	free := added(begun(few()), body(gifts(3, bob, 5), payments(3, 0, bob, 0, 1, 0)...), api.Body{})
	paid := added(free, body(nil, paying(0, bob, 3, 1, 1)))
	poor := added(free, body(nil, paying(0, bob, 3, 900, 1)))
	other := wrongless(chain.Add(paid, body(nil, paying(0, bob, 4, 1, 1)), cid))
	for what, c := range map[string]struct {
		c       api.Chain
		in, out bool
	}{
		"no fee": {free, true, true}, "a fee": {paid, true, false}, "a fee that is not paid": {poor, true, true}, "two boxes": {other, false, false},
	} {
		if chain.Sound(c.c, box) != c.in {
			t.Errorf("%s: sound with the box: not %t", what, c.in)
		}
		if chain.Sound(c.c, cid) != c.out || chain.Sound(c.c, api.Digest{}) != c.out {
			t.Errorf("%s: sound with another box: not %t", what, c.out)
		}
	}
}

// P17.2: Head and State.

func TestHeadAndState(t *testing.T) {
	all := soundChains()
	maps.Copy(all, unsoundChains())
	for what, c := range all {
		if h, e := chain.Head(c); e != api.OK || h != c.Links[len(c.Links)-1].Header {
			t.Errorf("%s: Head: error %d, %v", what, e, h)
		}
		for h, l := range c.Links[:min(len(c.Links), 20)] {
			want := api.Tree{Nodes: c.Tree.Nodes, Root: l.Root}
			if got, e := chain.State(c, h); e != api.OK || !alikeTrees(got, want) {
				t.Errorf("%s: State of %d: error %d, root %d of %d, want %d of %d", what, h, e, got.Root, len(got.Nodes), want.Root, len(want.Nodes))
			}
		}
		for _, h := range []int{-1, math.MinInt, len(c.Links), len(c.Links) + 1, 256, math.MaxInt} {
			wantArg(t, what, api.ErrArg, c, h)
		}
	}
}

// What a state is, is what the blocks up to it left.
func TestStatesOfBusy(t *testing.T) {
	c := busy()
	for _, w := range []struct {
		h             int
		ann, bob, cid api.Account
	}{
		{0, account(0, 100), account(0, 7), api.Account{}},
		{1, account(2, 81), account(0, 24), account(0, 9)},
		{2, account(2, 81), account(0, 24), account(0, 9)},
		{3, account(2, 81), account(0, 24), account(0, 10)},
		{4, account(3, 85), account(1, 24), account(1, 2)},
		{5, account(3, 85), account(1, 24), account(1, 2)},
	} {
		state, _ := chain.State(c, w.h)
		for k, want := range (book{ann: w.ann, bob: w.bob, cid: w.cid}) {
			if got, e := acct.Get(state, k); e != api.OK || got != want {
				t.Errorf("at %d: error %d, %v, want %v", w.h, e, got, want)
			}
		}
	}
}

// P17.2: Add.

func TestAdd(t *testing.T) {
	bodies := map[string]api.Body{
		"nothing":              {},
		"empty lists":          body([]api.Deposit{}, []api.Tx{}...),
		"a deposit":            body(gifts(1, cid, 5)),
		"as much as may be":    body(gifts(16, cid, 5), payments(16, 1, ann, 1, 1, 1)...),
		"one that is over":     body(gifts(2, cid, greatest)),
		"one that is poor":     body(nil, paying(1, ann, 1, greatest, 0)),
		"17 deposits":          body(gifts(17, cid, 5)),
		"17 transactions":      body(nil, payments(17, 1, ann, 1, 1, 1)...),
		"one not signed":       body(gifts(1, cid, 5), payments(1, 1, ann, 1, 1, 1)[0], api.Tx{Pub: pub(1), Nonce: 2}),
		"another nonce":        body(nil, paying(1, ann, 5, 1, 1)),
		"the same twice":       body(nil, slices.Repeat(payments(1, 1, ann, 1, 1, 1), 2)...),
		"many and not signed":  body(nil, make([]api.Tx, 17)...),
		"a nonce, then a sign": body(nil, paying(1, ann, 5, 1, 1), api.Tx{}),
	}
	chains := soundChains()
	maps.Copy(chains, unsoundChains())
	told := map[api.Errno]int{}
	for what, c := range chains {
		if len(c.Links) == api.MaxLinks || what == "a comb" {
			continue
		}
		for which, b := range bodies {
			_, e := wantAdded(t, what+": "+which, c, b, box)
			told[e]++
		}
	}
	for _, e := range []api.Errno{api.OK, api.ErrBad, api.ErrMany, api.ErrSign, api.ErrArg} {
		if told[e] < 5 {
			t.Errorf("error %d is told only %d times", e, told[e])
		}
	}
}

// The fees are the box's.
func TestAddPaysTheBox(t *testing.T) {
	for _, to := range []api.Digest{{}, box, ann, hashed(9)} {
		c, _ := wantAdded(t, "a fee", begun(few()), body(nil, paying(0, bob, 0, 1, 4)), to)
		state, _ := chain.State(c, 1)
		want := uint64(4)
		if to == ann {
			want = 99
		}
		if a, e := acct.Get(state, to); e != api.OK || a.Balance != want {
			t.Errorf("the box has %v, error %d, want %d", a, e, want)
		}
	}
}

// Whatever the body is.
func TestAddToAsManyLinksAsMayBe(t *testing.T) {
	c := long(api.MaxLinks - 1)
	full, _ := wantAdded(t, "the last one", c, body(gifts(1, bob, 5)), box)
	if !chain.Sound(full, box) || len(full.Links) != api.MaxLinks {
		t.Errorf("the last one: %s, or it is not sound", brief(full))
	}
	for what, b := range map[string]api.Body{
		"nothing": {}, "a deposit": body(gifts(1, bob, 5)), "17 deposits": body(gifts(17, bob, 5)), "not signed": body(nil, make([]api.Tx, 1)...), "another nonce": body(nil, paying(0, bob, 9, 0, 0)),
	} {
		wantNoBlock(t, what, api.ErrFull, full, b, box)
		wantNoBlock(t, what+", many nodes", api.ErrFull, sized(full, api.MaxNodes), b, box)
	}
	back := wantCut(t, "one less", full, api.MaxLinks-2)
	wantAdded(t, "the last one anew", back, body(gifts(1, bob, 5)), box)
}

// By the nodes of all of the tree: just as many as may be, and one more.
func TestAddToAFullTree(t *testing.T) {
	c := busy()
	for _, w := range []struct {
		what string
		b    api.Body
		room int
	}{
		{"nothing", api.Body{}, 1200},
		{"a deposit", body(gifts(1, ann, 5)), 1500},
		{"two deposits", body(gifts(2, ann, 5)), 1800},
		{"a transaction", body(nil, paying(1, ann, 1, 1, 1)), 2400},
	} {
		if out, e := wantAdded(t, w.what, sized(c, api.MaxNodes-w.room), w.b, box); e != api.OK || !chain.Sound(out, box) {
			t.Errorf("%s: error %d, or it is not sound", w.what, e)
		}
		full := sized(c, api.MaxNodes-w.room+1)
		wantNoBlock(t, w.what, api.ErrFull, full, w.b, box)
		wantNoBlock(t, "many, and "+w.what, api.ErrMany, full, body(gifts(17, ann, 5)), box)
		wantNoBlock(t, "not signed, and "+w.what, api.ErrFull, full, body(w.b.Deposits, append(w.b.Txs, api.Tx{})...), box)
	}
}

// A head alone that may not be as a header is, as layer 14 tells it, no parent.
func TestAddBehindAHeadThatMayNotBe(t *testing.T) {
	c := with(begun(few()), receiptsAt(0, 257))
	wantNoBlock(t, "257 receipts", api.ErrBad, c, api.Body{}, box)
	wantNoBlock(t, "257 receipts, 17 deposits", api.ErrBad, c, body(gifts(17, ann, 5)), box)
	wantAdded(t, "256 receipts", with(c, receiptsAt(0, 256)), api.Body{}, box)
}

// P17.2: Cut.

func TestCut(t *testing.T) {
	all := soundChains()
	maps.Copy(all, unsoundChains())
	for what, c := range all {
		for h := range min(len(c.Links), 20) {
			wantCut(t, fmt.Sprint(what, " to ", h), c, h)
		}
		if !alike(wantCut(t, what, c, len(c.Links)-1), c) {
			t.Errorf("%s: cut to its head's height it is another one", what)
		}
	}
}

// P17.2: Check's error first.

func TestCheckIsAskedFirst(t *testing.T) {
	for what, c := range wrongChains() {
		for _, h := range []int{-1, 0, 1, 7, math.MaxInt, math.MinInt} {
			for _, b := range []api.Body{{}, body(gifts(17, ann, 1)), body(nil, api.Tx{})} {
				wantEachError(t, what, api.ErrBad, c, h, b)
			}
			if t.Failed() {
				return
			}
		}
	}
}

// P17.3: Same and Twin.

func everyone() map[string]api.Chain {
	all := soundChains()
	maps.Copy(all, unsoundChains())
	for what, c := range wrongChains() {
		if len(c.Tree.Nodes) < 1000 && len(c.Links) < 1000 {
			all["wrong: "+what] = c
		}
	}
	for what, c := range all {
		if len(c.Links) > 100 {
			delete(all, what)
		}
	}
	return all
}

func TestSameAndTwin(t *testing.T) {
	all := everyone()
	for what, c := range all {
		if !chain.Same(c, copied(c)) || !alike(chain.Twin(c), c) || !chain.Same(chain.Twin(c), c) {
			t.Errorf("%s: it is not the same as its copy, or as its twin", what)
		}
		for which, d := range all {
			if chain.Same(c, d) != alike(c, d) {
				t.Errorf("%s is the same as %s: not %t", what, which, alike(c, d))
			}
		}
	}
}

// Each field of each thing is asked.
func TestOneFieldIsAnother(t *testing.T) {
	c := busy()
	leaf := slices.IndexFunc(c.Tree.Nodes, func(at api.Node) bool { return at.Leaf })
	turn := func(d *api.Digest) { d[31] ^= 1 }
	changes := map[string]func(c *api.Chain){
		"the tree's Root":     func(c *api.Chain) { c.Tree.Root++ },
		"one node more":       noded(func(at *api.Node) {}),
		"one node less":       func(c *api.Chain) { c.Tree.Nodes = c.Tree.Nodes[:len(c.Tree.Nodes)-1] },
		"a leaf":              func(c *api.Chain) { c.Tree.Nodes[leaf].Leaf = false },
		"a leaf's Key":        func(c *api.Chain) { turn(&c.Tree.Nodes[leaf].Key) },
		"a leaf's Value":      func(c *api.Chain) { c.Tree.Nodes[leaf].Value[15] ^= 1 },
		"a longer Value":      func(c *api.Chain) { c.Tree.Nodes[leaf].Value = append(c.Tree.Nodes[leaf].Value, 0) },
		"a node's Left":       func(c *api.Chain) { c.Tree.Nodes[leaf].Left++ },
		"a node's Right":      func(c *api.Chain) { c.Tree.Nodes[leaf].Right-- },
		"one link more":       func(c *api.Chain) { c.Links = append(c.Links, api.Link{}) },
		"one link less":       func(c *api.Chain) { c.Links = c.Links[:5] },
		"no links":            func(c *api.Chain) { c.Links = nil },
		"a Height":            headed(5, func(h *api.Header) { h.Height-- }),
		"a Parent":            headed(0, func(h *api.Header) { turn(&h.Parent) }),
		"a State":             headed(1, func(h *api.Header) { turn(&h.State) }),
		"Rows":                headed(2, func(h *api.Header) { turn(&h.Rows) }),
		"a Many":              headed(3, func(h *api.Header) { h.Many++ }),
		"a Root":              at(2, func(l *api.Link) { l.Root++ }),
		"one deposit more":    at(2, func(l *api.Link) { l.Body.Deposits = gifts(1, ann, 1) }),
		"one deposit less":    at(1, func(l *api.Link) { l.Body.Deposits = l.Body.Deposits[:1] }),
		"a deposit's Number":  at(1, func(l *api.Link) { l.Body.Deposits[1].Number++ }),
		"a deposit's To":      at(1, func(l *api.Link) { turn(&l.Body.Deposits[0].To) }),
		"a deposit's Amount":  at(1, func(l *api.Link) { l.Body.Deposits[0].Amount++ }),
		"a transaction more":  at(5, func(l *api.Link) { l.Body.Txs = make([]api.Tx, 1) }),
		"a transaction less":  at(4, func(l *api.Link) { l.Body.Txs = l.Body.Txs[:2] }),
		"a Pub":               at(4, func(l *api.Link) { turn(&l.Body.Txs[0].Pub) }),
		"a To":                at(4, func(l *api.Link) { turn(&l.Body.Txs[1].To) }),
		"a Nonce":             at(4, func(l *api.Link) { l.Body.Txs[2].Nonce++ }),
		"an Amount":           at(4, func(l *api.Link) { l.Body.Txs[2].Amount++ }),
		"a Fee":               at(4, func(l *api.Link) { l.Body.Txs[2].Fee++ }),
		"a Sign":              at(4, func(l *api.Link) { turn(&l.Body.Txs[2].Sign) }),
		"a receipt more":      at(0, func(l *api.Link) { l.Receipts = receipts(1) }),
		"a receipt less":      at(1, func(l *api.Link) { l.Receipts = l.Receipts[:3] }),
		"a receipt's Kind":    at(4, func(l *api.Link) { l.Receipts[2].Kind++ }),
		"a receipt's Id":      at(4, func(l *api.Link) { turn(&l.Receipts[0].Id) }),
		"a receipt's Code":    at(4, func(l *api.Link) { l.Receipts[1].Code++ }),
		"links turned round":  func(c *api.Chain) { slices.Reverse(c.Links) },
		"parts turned round":  at(1, func(l *api.Link) { slices.Reverse(l.Body.Txs) }),
		"nodes turned round":  func(c *api.Chain) { slices.Reverse(c.Tree.Nodes) },
		"all links are empty": func(c *api.Chain) { clear(c.Links) },
	}
	for what, f := range changes {
		other := with(c, f)
		if chain.Same(c, other) || chain.Same(other, c) {
			t.Errorf("%s: it is the same", what)
		}
		if twin := chain.Twin(other); !alike(twin, other) {
			t.Errorf("%s: its twin is another one", what)
		}
	}
}

// Lists that are empty, and lists that are nil, are the same.
func TestEmptyListsAreTheSame(t *testing.T) {
	for _, none := range []api.Chain{{}, {Links: []api.Link{}}, {Tree: api.Tree{Nodes: []api.Node{}}}} {
		for _, other := range []api.Chain{{}, {Links: []api.Link{}}, {Tree: api.Tree{Nodes: []api.Node{}}}} {
			if !chain.Same(none, other) {
				t.Error("chains of nothing are not the same")
			}
		}
	}
	c := begun(few())
	empty := with(c, at(0, func(l *api.Link) { l.Body, l.Receipts = body([]api.Deposit{}, []api.Tx{}...), []api.Receipt{} }))
	if !chain.Same(c, empty) || !chain.Same(empty, c) {
		t.Error("links of nothing are not the same")
	}
}

// P17.3: what is handed in is only read, what is answered is new memory.

// What stands behind a list's end, or a value's, is its caller's: neither read nor changed.
func roomy(c api.Chain) api.Chain {
	out := copied(c)
	for i, at := range out.Tree.Nodes {
		out.Tree.Nodes[i].Value = roomyList(at.Value, 0xee)
	}
	for i, l := range out.Links {
		out.Links[i].Body = roomyBody(l.Body)
		out.Links[i].Receipts = roomyList(l.Receipts, api.Receipt{Kind: 77})
	}
	out.Tree.Nodes = roomyList(out.Tree.Nodes, leafOf(hashed(78), []byte("beyond")))
	out.Links = roomyList(out.Links, api.Link{Root: 77})
	return out
}

func roomyList[T any](l []T, beyond T) []T {
	out := append(make([]T, 0, len(l)+2), l...)
	for i := range 2 {
		out[:cap(out)][len(l)+i] = beyond
	}
	return out
}

func roomyBody(b api.Body) api.Body {
	return api.Body{Deposits: roomyList(b.Deposits, gift(77, hashed(77), 7)), Txs: roomyList(b.Txs, paying(7, hashed(77), 7, 7, 7))}
}

func roomyPairs(l []api.Pair) []api.Pair {
	out := roomyList(l, api.Pair{Key: hashed(77), Value: counted(5)})
	for i, p := range out[:len(l)] {
		out[i].Value = roomyList(p.Value, 0xee)
	}
	return out
}

func wholly(c api.Chain) string {
	b := fmt.Append(nil, c.Tree.Root, " ", len(c.Tree.Nodes), " ", len(c.Links), "\n")
	for _, at := range c.Tree.Nodes[:cap(c.Tree.Nodes)] {
		b = fmt.Appendf(b, "%t %x %d: %x %d %d\n", at.Leaf, at.Key, len(at.Value), at.Value[:cap(at.Value)], at.Left, at.Right)
	}
	for _, l := range c.Links[:cap(c.Links)] {
		b = fmt.Append(b, l.Header, l.Root, whollyBody(l.Body), len(l.Receipts), l.Receipts[:cap(l.Receipts)], "\n")
	}
	return string(b)
}

func whollyBody(b api.Body) string {
	return fmt.Sprint(len(b.Deposits), b.Deposits[:cap(b.Deposits)], len(b.Txs), b.Txs[:cap(b.Txs)])
}

func whollyPairs(l []api.Pair) string {
	b := fmt.Append(nil, len(l))
	for _, p := range l[:cap(l)] {
		b = fmt.Append(b, p.Key, len(p.Value), p.Value[:cap(p.Value)])
	}
	return string(b)
}

// Also what an append to it would write to.
func overwrite(c api.Chain) {
	overwriteTree(c.Tree)
	for i := range c.Links[:cap(c.Links)] {
		l := &c.Links[:cap(c.Links)][i]
		overwriteBody(l.Body)
		overwriteList(l.Receipts, api.Receipt{Kind: 78, Id: hashed(79), Code: 80})
		*l = api.Link{Root: 79}
	}
}

func overwriteTree(t api.Tree) {
	for i := range t.Nodes[:cap(t.Nodes)] {
		overwriteList(t.Nodes[:cap(t.Nodes)][i].Value, 0xdd)
	}
	overwriteList(t.Nodes, leafOf(hashed(99), []byte("overwritten")))
}

func overwriteBody(b api.Body) {
	overwriteList(b.Deposits, gift(79, hashed(79), 9))
	overwriteList(b.Txs, api.Tx{Nonce: 79})
}

func overwriteList[T any](l []T, by T) {
	for i := range l[:cap(l)] {
		l[:cap(l)][i] = by
	}
}

// All calls that answer a chain, or a tree.
func calls(b api.Body) map[string]func(c api.Chain) api.Chain {
	all := map[string]func(c api.Chain) api.Chain{
		"Twin": chain.Twin,
		"Add":  func(c api.Chain) api.Chain { out, _ := chain.Add(c, b, box); return out },
	}
	for h := range 3 {
		all[fmt.Sprint("Cut to ", h)] = func(c api.Chain) api.Chain { out, _ := chain.Cut(c, h); return out }
		all[fmt.Sprint("State of ", h)] = func(c api.Chain) api.Chain {
			t, _ := chain.State(c, h)
			return api.Chain{Tree: t}
		}
	}
	return all
}

func TestWhatIsHandedInStays(t *testing.T) {
	for what, c := range everyone() {
		in, b := roomy(c), roomyBody(body(gifts(2, cid, 5), paying(1, ann, 1, 1, 1)))
		before, beforeBody := wholly(in), whollyBody(b)
		for _, call := range calls(b) {
			call(in)
		}
		chain.Check(in)
		chain.Sound(in, box)
		chain.Head(in)
		chain.Same(in, c)
		chain.Same(c, in)
		if wholly(in) != before || whollyBody(b) != beforeBody {
			t.Errorf("%s: it is changed, or the body", what)
		}
	}
	for n := range 9 {
		begin := roomyPairs(crowd(n).pairs())
		before := whollyPairs(begin)
		chain.New(begin)
		if whollyPairs(begin) != before {
			t.Errorf("%d pairs are changed", n)
		}
	}
}

// What is answered is overwritten, and changes neither what was handed in nor what is
// answered behind it; nor is it changed with what was handed in.
func TestWhatIsAnsweredIsNewMemory(t *testing.T) {
	for what, c := range everyone() {
		b := roomyBody(body(gifts(2, cid, 5), paying(1, ann, 1, 1, 1)))
		for which, call := range calls(b) {
			in := roomy(c)
			before, beforeBody := wholly(in), whollyBody(b)
			first, second := call(in), call(in)
			want := wholly(copied(second))
			overwrite(first)
			if wholly(in) != before || whollyBody(b) != beforeBody {
				t.Errorf("%s: %s: what is answered is not new memory", what, which)
			}
			if wholly(copied(second)) != want {
				t.Errorf("%s: %s: what is answered twice shares memory", what, which)
			}
			third := call(in)
			overwrite(in)
			if wholly(copied(third)) != want {
				t.Errorf("%s: %s: what is answered is changed with what was handed in", what, which)
			}
		}
	}
}

func TestABodyIsCopied(t *testing.T) {
	b := body(gifts(2, cid, 5), paying(1, ann, 1, 1, 1))
	c := added(busy(), b)
	want := wholly(c)
	overwriteBody(b)
	if wholly(c) != want {
		t.Error("what is answered is changed with the body")
	}
}

func TestANewChainIsNewMemory(t *testing.T) {
	begin := roomyPairs(crowd(9).pairs())
	before := whollyPairs(begin)
	first, _ := chain.New(begin)
	second, _ := chain.New(begin)
	want := wholly(copied(second))
	overwrite(first)
	if whollyPairs(begin) != before || wholly(copied(second)) != want {
		t.Error("what is answered is not new memory")
	}
	for i := range begin {
		overwriteList(begin[i].Value, 0xdd)
	}
	overwriteList(begin, api.Pair{})
	if wholly(copied(second)) != want {
		t.Error("what is answered is changed with what it began with")
	}
}

// No two lists that are answered share memory.
func TestListsThatAreAnsweredAreEachTheirOwn(t *testing.T) {
	for which, call := range calls(body(gifts(2, cid, 5), paying(1, ann, 1, 1, 1))) {
		out := call(busy())
		for i, at := range out.Tree.Nodes {
			if len(at.Value) == 0 {
				continue
			}
			before := copied(out)
			at.Value[0] ^= 0xff
			before.Tree.Nodes[i].Value[0] ^= 0xff
			if !alike(out, before) {
				t.Errorf("%s: node %d's value changes others", which, i+1)
			}
		}
		for i := range out.Links {
			before := copied(out)
			change := func(l *api.Link) {
				overwriteBody(l.Body)
				overwriteList(l.Receipts, api.Receipt{Kind: 78})
			}
			change(&out.Links[i])
			change(&before.Links[i])
			if !alike(out, before) {
				t.Errorf("%s: link %d's lists change others", which, i)
			}
		}
	}
}

// P17.4, by long walks.

// A walk is a chain that is added to and cut, and the chain as it was behind each block.
type walk struct {
	c      api.Chain
	was    []api.Chain
	seen   map[string]int
	random *rand.Rand
}

const people = 4

// Often few, so that they are met again, and often so great that something runs over.
func (w *walk) number() uint64 {
	return w.random.Uint64() >> []int{0, 1, 50, 58, 60, 62, 64}[w.random.Intn(7)]
}

// Each transaction by its sender's nonce there, but for few: those are refused.
func (w *walk) body() api.Body {
	var b api.Body
	for range w.random.Intn(3) {
		b.Deposits = append(b.Deposits, gift(w.number(), who(w.random.Intn(people)), w.number()))
	}
	used := map[int]uint64{}
	for range w.random.Intn(4) {
		i := w.random.Intn(people)
		a, _ := acct.Get(w.c.Tree, who(i))
		nonce := a.Nonce + used[i]
		if w.random.Intn(40) == 0 {
			nonce++
		}
		used[i]++
		b.Txs = append(b.Txs, paying(i, who(w.random.Intn(people)), nonce, w.number(), w.number()>>50))
	}
	return b
}

func (w *walk) add(t *testing.T) {
	out, e := wantAdded(t, "on a walk", w.c, w.body(), box)
	w.seen[fmt.Sprint("error ", int(e))]++
	if e == api.OK {
		w.was = append(w.was[:len(out.Links)-1], out)
		w.c = out
	}
}

func (w *walk) cut(t *testing.T) {
	h := len(w.c.Links) - 1 - min(w.random.Intn(4), len(w.c.Links)-1)
	gone := w.c.Links[h+1:]
	w.c = wantCut(t, "on a walk", w.c, h)
	w.seen[fmt.Sprint("cut by ", len(gone))]++
	wantAsItWas(t, w.c, w.was[h])
	again := w.c
	for _, l := range gone {
		again = added(again, l.Body)
		if !alikeBlocks(again.Links[len(again.Links)-1], l) {
			t.Errorf("what is added anew is another block")
		}
	}
	wantAsItWas(t, again, w.was[len(again.Links)-1])
}

// wantAsItWas holds what is told of each height against what was told.
func wantAsItWas(t *testing.T, c, was api.Chain) {
	t.Helper()
	if !slices.EqualFunc(c.Links, was.Links, alikeBlocks) {
		t.Errorf("%s, and it was %s", brief(c), brief(was))
		return
	}
	for h := range c.Links {
		a, e := chain.State(c, h)
		b, f := chain.State(was, h)
		if e != api.OK || f != api.OK || !standSame(a, b) {
			t.Errorf("the state at %d: errors %d and %d, or it is another one", h, e, f)
		}
	}
}

func TestWalks(t *testing.T) {
	seen := map[string]int{}
	for seed := range int64(10) {
		c := begun(crowd(int(seed)))
		w := &walk{c: c, was: []api.Chain{c}, seen: seen, random: rand.New(rand.NewSource(seed))}
		for range 30 {
			if w.random.Intn(5) == 0 {
				w.cut(t)
			} else {
				w.add(t)
			}
			if !chain.Sound(w.c, box) || !isSound(w.c, box) {
				t.Errorf("it is not sound: %s", brief(w.c))
			}
			if t.Failed() {
				t.Fatalf("in walk %d", seed)
			}
		}
	}
	for _, few := range []string{"error 0", "error 2", "cut by 0", "cut by 1", "cut by 2", "cut by 3"} {
		if seen[few] < 5 {
			t.Errorf("%s is told too seldom: %v", few, seen)
		}
	}
}

// Also when blocks have filled the tree: no version was, when its block was applied.
func TestAFullTreeStaysSound(t *testing.T) {
	pay := body(nil, paying(0, bob, 0, 1, 1))
	c := added(sized(added(begun(few()), api.Body{}), api.MaxNodes-2400), pay)
	wantNoBlock(t, "one more", api.ErrFull, c, body(nil, paying(0, bob, 1, 1, 1)), box)
	for h := 2; h >= 0; h-- {
		c = wantCut(t, fmt.Sprint("to ", h), c, h)
		if !chain.Sound(c, box) {
			t.Errorf("cut to %d it is not sound", h)
		}
	}
	if c, e := chain.Add(c, api.Body{}, box); e != api.OK || !chain.Sound(c, box) {
		t.Errorf("added to again: error %d, or it is not sound", e)
	}
	if !chain.Sound(sized(c, api.MaxNodes), box) {
		t.Error("as many nodes as may be: it is not sound")
	}
}

// P1: whatever it is handed, each call ends; what is told is held against the models.

func randomChange(random *rand.Rand, c *api.Chain) {
	if len(c.Links) == 0 {
		return
	}
	i := random.Intn(len(c.Links))
	l := &c.Links[i]
	small := func() int { return random.Intn(5) - 1 }
	switch random.Intn(16) {
	case 0:
		l.Header.Height += random.Intn(3) - 1
	case 1:
		l.Header.Parent[0] ^= 1
	case 2:
		l.Header.State[0] ^= 1
	case 3:
		l.Header.Rows[0] ^= 1
	case 4:
		l.Header.Many = small()
	case 5:
		l.Root = random.Intn(len(c.Tree.Nodes)+3) - 1
	case 6:
		rooted(i, random.Intn(len(c.Tree.Nodes)+1))(c)
	case 7:
		l.Body.Deposits = gifts(random.Intn(19), ann, 0)
	case 8:
		l.Body.Txs = payments(random.Intn(19), 0, bob, 0, 0, 0)
	case 9:
		for at := range l.Body.Txs {
			l.Body.Txs[at].Fee += uint64(random.Intn(2))
		}
	case 10:
		receiptsAt(i, random.Intn(3))(c)
	case 11:
		valued(i, bob, counted(14+random.Intn(4)))(c)
	case 12:
		c.Links = slices.Delete(c.Links, i, i+1)
	case 13:
		c.Links = c.Links[:i]
	case 14:
		for at := range l.Receipts {
			l.Receipts[at].Code += api.Errno(random.Intn(2))
		}
	case 15:
		noded(func(at *api.Node) { at.Left, at.Right = small(), small() })(c)
	}
}

func TestWhateverIsHandedIn(t *testing.T) {
	random := rand.New(rand.NewSource(17))
	from := []api.Chain{busy(), begun(few()), begun(book{}), added(begun(few()), busyBodies()[:2]...), added(begun(book{}), api.Body{}, api.Body{})}
	seen := map[string]int{}
	for range 6000 {
		c := copied(from[random.Intn(len(from))])
		for range random.Intn(4) {
			randomChange(random, &c)
		}
		if len(c.Links) > 0 && random.Intn(2) == 0 {
			mend(&c)
		}
		h, b := random.Intn(9)-1, body(gifts(random.Intn(2), bob, 5), payments(random.Intn(2), 0, bob, uint64(random.Intn(3)), 1, 1)...)
		if !mayBe(c) {
			seen["may not be"]++
			wantEachError(t, brief(c), api.ErrBad, c, h, b)
			if chain.Check(c) != api.ErrBad || chain.Sound(c, box) {
				t.Errorf("%s: it may be, or is sound", brief(c))
			}
			continue
		}
		sound := isSound(c, box)
		seen[fmt.Sprint("may be, sound: ", sound)]++
		if chain.Check(c) != api.OK || chain.Sound(c, box) != sound {
			t.Errorf("%s: it may not be, or is sound: not %t", brief(c), sound)
		}
		if out, e := wantAdded(t, brief(c), c, b, box); e == api.OK && chain.Sound(out, box) != sound {
			t.Errorf("%s: added to, it is sound: not %t", brief(c), sound)
		}
		if h < 0 || h >= len(c.Links) {
			wantArg(t, brief(c), api.ErrArg, c, h)
		} else if out := wantCut(t, brief(c), c, h); sound && !chain.Sound(out, box) {
			t.Errorf("%s: cut to %d it is not sound", brief(c), h)
		}
		if t.Failed() {
			t.FailNow()
		}
	}
	for _, what := range []string{"may not be", "may be, sound: true", "may be, sound: false"} {
		if seen[what] < 500 {
			t.Errorf("%s: only %d times", what, seen[what])
		}
	}
}
