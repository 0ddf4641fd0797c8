package view_test

import (
	"bytes"
	"fmt"
	"maps"
	"math"
	"math/big"
	"math/rand"
	"slices"
	"testing"

	"beadroll/acct"
	"beadroll/api"
	"beadroll/chain"
	"beadroll/header"
	"beadroll/proof"
	"beadroll/receipt"
	"beadroll/sha"
	"beadroll/tree"
	"beadroll/tx"
	"beadroll/verify"
	"beadroll/view"
)

const (
	greatest = math.MaxUint64
	last     = 1<<30 - 1 // the greatest Number
)

func hashed(i int) api.Digest {
	return sha.Of([]byte(fmt.Sprint("view ", i)))
}

func turned(k api.Digest, i int) api.Digest {
	k[i/8] ^= 128 >> (i % 8)
	return k
}

func account(nonce, balance uint64) api.Account {
	return api.Account{Nonce: nonce, Balance: balance}
}

// The public digest of the person i, and the key of its account.
func pub(i int) api.Digest {
	return hashed(1000 + i)
}

func who(i int) api.Digest {
	return acct.Key(pub(i))
}

var (
	ann = who(0)
	bob = who(1)
	cid = who(2)
	box = who(3)
)

// A transaction of the person i's, signed.
func paying(i int, to api.Digest, nonce, amount, fee uint64) api.Tx {
	return tx.Sign(api.Tx{Pub: pub(i), To: to, Nonce: nonce, Amount: amount, Fee: fee})
}

func gift(number uint64, to api.Digest, amount uint64) api.Deposit {
	return api.Deposit{Number: number, To: to, Amount: amount}
}

func body(d []api.Deposit, x ...api.Tx) api.Body {
	return api.Body{Deposits: d, Txs: x}
}

func giving(d ...api.Deposit) api.Body {
	return body(d)
}

// A book tells the accounts that a chain begins with.
type book map[api.Digest]api.Account

func (b book) pairs() []api.Pair {
	var l []api.Pair
	for k, a := range b {
		l = append(l, api.Pair{Key: k, Value: acct.Bytes(a)})
	}
	slices.SortFunc(l, func(p, q api.Pair) int { return bytes.Compare(p.Key[:], q.Key[:]) })
	return l
}

func few() book {
	return book{ann: account(0, 100), bob: account(0, 7), hashed(3): account(7, 1)}
}

func crowd(n int) book {
	b := book{}
	for i := range n {
		b[hashed(i)] = account(uint64(i), uint64(n))
	}
	return b
}

func fine[T any](out T, e api.Errno) T {
	if e != api.OK {
		panic(fmt.Sprint("error ", int(e)))
	}
	return out
}

func begun(b book) api.View {
	return api.View{Chain: fine(chain.New(b.pairs()))}
}

func sealed(v api.View, all ...api.Body) api.View {
	for _, b := range all {
		v = fine(view.Seal(v, b, box))
	}
	return v
}

func confirmed(v api.View, h int) api.View {
	return fine(view.Confirm(v, h))
}

func rolled(v api.View, h int) api.View {
	out, _, e := view.Roll(v, h)
	return fine(out, e)
}

// The chapter's one: a new chain of nothing, and an empty block sealed.
func small() api.View {
	return sealed(begun(nil), api.Body{})
}

// Of two of these bodies a part is the same one: the first deposit at 1 and at 4.
func busyBodies() []api.Body {
	return []api.Body{
		body([]api.Deposit{gift(0, bob, 5), gift(1, bob, 5)}, paying(0, bob, 0, 7, 2), paying(0, cid, 1, 9, 1)),
		{},
		giving(gift(9, cid, 1), gift(10, ann, greatest)),
		body([]api.Deposit{gift(0, bob, 5)}, paying(1, ann, 0, 900, 2), paying(2, ann, 0, 4, 4), paying(0, who(9), 2, 0, 0)),
		giving(gift(0, bob, 0)),
	}
}

func busy() api.View {
	return sealed(begun(few()), busyBodies()...)
}

// So many links, all but the first one of an empty body.
func long(n int) api.View {
	return sealed(begun(few()), make([]api.Body, n-1)...)
}

func copied(v api.View) api.View {
	v.Chain.Tree.Nodes = slices.Clone(v.Chain.Tree.Nodes)
	for i, at := range v.Chain.Tree.Nodes {
		v.Chain.Tree.Nodes[i].Value = slices.Clone(at.Value)
	}
	v.Chain.Links = slices.Clone(v.Chain.Links)
	for i, l := range v.Chain.Links {
		v.Chain.Links[i].Body = copiedBody(l.Body)
		v.Chain.Links[i].Receipts = slices.Clone(l.Receipts)
	}
	return v
}

func copiedBody(b api.Body) api.Body {
	return body(slices.Clone(b.Deposits), slices.Clone(b.Txs)...)
}

func with(v api.View, changes ...func(v *api.View)) api.View {
	out := copied(v)
	for _, f := range changes {
		f(&out)
	}
	return out
}

func numbered(n int) func(v *api.View) {
	return func(v *api.View) { v.Number = n }
}

func final(h int) func(v *api.View) {
	return func(v *api.View) { v.Final = h }
}

func down(v *api.View) {
	v.Down = true
}

func at(i int, f func(l *api.Link)) func(v *api.View) {
	return func(v *api.View) { f(&v.Chain.Links[i]) }
}

// mend makes each link's Parent the hash of the one ahead.
func mend(v *api.View) {
	for i := range v.Chain.Links[1:] {
		v.Chain.Links[i+1].Header.Parent, _ = header.Hash(v.Chain.Links[i].Header)
	}
}

// What is told in the link i, as a chain may be, sound or not.
func telling(i int, l ...api.Receipt) func(v *api.View) {
	return at(i, func(own *api.Link) { own.Receipts, own.Header.Many = l, len(l) })
}

func rec(id api.Digest, code api.Errno) api.Receipt {
	return api.Receipt{Kind: api.RecTx, Id: id, Code: code}
}

func recs(n int) []api.Receipt {
	var l []api.Receipt
	for i := range n {
		l = append(l, rec(hashed(i), api.OK))
	}
	return l
}

func alikeChains(a, b api.Chain) bool {
	alikeNodes := func(a, b api.Node) bool {
		return a.Leaf == b.Leaf && a.Key == b.Key && bytes.Equal(a.Value, b.Value) && a.Left == b.Left && a.Right == b.Right
	}
	return a.Tree.Root == b.Tree.Root && slices.EqualFunc(a.Tree.Nodes, b.Tree.Nodes, alikeNodes) &&
		slices.EqualFunc(a.Links, b.Links, func(a, b api.Link) bool { return a.Root == b.Root && alikeBlocks(a, b) })
}

func alikeBlocks(a, b api.Link) bool {
	return a.Header == b.Header && alikeBodies(a.Body, b.Body) && slices.Equal(a.Receipts, b.Receipts)
}

func alikeBodies(a, b api.Body) bool {
	return slices.Equal(a.Deposits, b.Deposits) && slices.Equal(a.Txs, b.Txs)
}

func alike(a, b api.View) bool {
	return a.Number == b.Number && a.Down == b.Down && a.Final == b.Final && alikeChains(a.Chain, b.Chain)
}

// By the chapter's words.
func mayBe(v api.View) bool {
	return chain.Check(v.Chain) == api.OK && 0 <= v.Final && v.Final <= len(v.Chain.Links)-1 &&
		0 <= v.Number && v.Number < 1<<30
}

func brief(v api.View) string {
	s := fmt.Sprint("number ", v.Number, ", down ", v.Down, ", final ", v.Final, ", ", len(v.Chain.Links), " links, root ", v.Chain.Tree.Root, " of ", len(v.Chain.Tree.Nodes), " nodes")
	for _, l := range v.Chain.Links[:min(len(v.Chain.Links), 8)] {
		s += fmt.Sprint("; height ", l.Header.Height, ", root ", l.Root, ", many ", l.Header.Many, ", ", len(l.Receipts), " receipts")
	}
	return s
}

// wantView asks Check, too, of what is answered.
func wantView(t *testing.T, what string, got api.View, e api.Errno, want api.View) {
	t.Helper()
	if e != api.OK || !alike(got, want) {
		t.Errorf("%s: error %d, %s, want %s", what, e, brief(got), brief(want))
	}
	if e == api.OK && view.Check(got) != api.OK {
		t.Errorf("%s: what is answered may not be: %s", what, brief(got))
	}
}

func wantNoView(t *testing.T, what string, want api.Errno, got api.View, e api.Errno) {
	t.Helper()
	if e != want || !alike(got, api.View{}) {
		t.Errorf("%s: error %d, %s, want error %d", what, e, brief(got), want)
	}
}

func wantNoRoll(t *testing.T, what string, want api.Errno, v api.View, h int) {
	t.Helper()
	out, dropped, e := view.Roll(v, h)
	wantNoView(t, fmt.Sprint(what, ": Roll to ", h), want, out, e)
	if len(dropped) != 0 {
		t.Errorf("%s: Roll to %d: error %d, and %d bodies are dropped", what, h, e, len(dropped))
	}
}

func wantNoProof(t *testing.T, what string, want api.Errno, v api.View, window, h int, k api.Digest) {
	t.Helper()
	root, p, e := view.Proof(v, window, h, k)
	if e != want || root != (api.Digest{}) || !proof.Same(p, api.Proof{}) {
		t.Errorf("%s: Proof at %d within %d: error %d, root %x, %v, want error %d", what, h, window, e, root, p, want)
	}
}

func wantNoHead(t *testing.T, what string, want api.Errno, v api.View) {
	t.Helper()
	if h, hash, e := view.Head(v); e != want || h != 0 || hash != (api.Digest{}) {
		t.Errorf("%s: Head: error %d, height %d, hash %x, want error %d", what, e, h, hash, want)
	}
}

func wantReceipt(t *testing.T, what string, v api.View, id api.Digest, height int, told api.Receipt, want api.Errno) {
	t.Helper()
	if h, r, e := view.Receipt(v, id); e != want || h != height || r != told {
		t.Errorf("%s: Receipt: error %d, height %d, %v, want error %d, height %d, %v", what, e, h, r, want, height, told)
	}
}

// Each turn that v takes tells that error, whatever else is wrong.
func wantNoTurn(t *testing.T, what string, want api.Errno, v api.View, b api.Body, h int) {
	t.Helper()
	out, e := view.Seal(v, b, box)
	wantNoView(t, what+": Seal", want, out, e)
	out, e = view.Confirm(v, h)
	wantNoView(t, fmt.Sprint(what, ": Confirm ", h), want, out, e)
	wantNoRoll(t, what, want, v, h)
	out, e = view.Stop(v)
	wantNoView(t, what+": Stop", want, out, e)
}

// Each call of a view that may not be tells ErrBad, and nothing beside.
func wantBad(t *testing.T, what string, v api.View, window, h int, b api.Body) {
	t.Helper()
	if e := view.Check(v); e != api.ErrBad {
		t.Errorf("%s: Check: error %d", what, e)
	}
	if a, e := view.Account(v, ann); e != api.ErrBad || a != (api.Account{}) {
		t.Errorf("%s: Account: error %d, %v", what, e, a)
	}
	wantReceipt(t, what, v, receipt.Deposit(gift(0, bob, 5)), 0, api.Receipt{}, api.ErrBad)
	wantNoProof(t, what, api.ErrBad, v, window, h, ann)
	wantNoHead(t, what, api.ErrBad, v)
	wantNoTurn(t, what, api.ErrBad, v, b, h)
}

// The chapter's examples.

func TestExamples(t *testing.T) {
	v := small()
	hash, _ := header.Hash(v.Chain.Links[1].Header)
	if h, told, e := view.Head(v); e != api.OK || h != 1 || told != hash {
		t.Errorf("Head: error %d, height %d, hash %x", e, h, told)
	}
	f, e := view.Confirm(v, 1)
	if e != api.OK || f.Final != 1 || f.Number != 2 {
		t.Errorf("Confirm 1: error %d, %s", e, brief(f))
	}
	wantNoRoll(t, "what is final", api.ErrFinal, f, 0)
	back, dropped, e := view.Roll(v, 0)
	if h, _, f := view.Head(back); e != api.OK || f != api.OK || h != 0 || back.Number != 2 {
		t.Errorf("Roll 0: error %d, %s", e, brief(back))
	}
	if len(dropped) != 1 || !alikeBodies(dropped[0], api.Body{}) {
		t.Errorf("Roll 0: dropped are %v", dropped)
	}
	wantNoProof(t, "the example", api.ErrGone, v, 1, 0, api.Digest{})
	if _, p, e := view.Proof(v, 2, 0, api.Digest{}); e != api.OK || p.End != api.EndNone {
		t.Errorf("Proof at 0 within 2: error %d, %v", e, p)
	}
	for i := range 5 {
		wantReceipt(t, "any id", v, hashed(i), 0, api.Receipt{}, api.ErrNone)
	}
	wantReceipt(t, "no id", v, api.Digest{}, 0, api.Receipt{}, api.ErrNone)
}

// P18.1: Check.

func soundViews() map[string]api.View {
	v := busy()
	end := len(v.Chain.Links) - 1
	return map[string]api.View{
		"of nothing":            begun(nil),
		"of few":                begun(few()),
		"of many":               begun(crowd(200)),
		"nothing, and a block":  small(),
		"busy":                  v,
		"down":                  with(v, down),
		"final at 1":            with(v, final(1)),
		"final at the head":     with(v, final(end)),
		"final below the head":  with(v, final(end-1), down),
		"the last number":       with(v, numbered(last)),
		"the last number but 1": with(v, numbered(last-1)),
		"number 0":              with(v, numbered(0)),
		"rolled back":           rolled(v, 2),
		"rolled back to 0":      rolled(v, 0),
		"and sealed again":      sealed(rolled(v, 2), busyBodies()[4], api.Body{}),
		"long":                  with(long(40), final(20)),
	}
}

// Each may be, though its chain is not sound.
func unsoundViews() map[string]api.View {
	v, end := busy(), len(busy().Chain.Links)-1
	return map[string]api.View{
		"a State between":   with(v, at(2, func(l *api.Link) { l.Header.State = hashed(9) }), mend),
		"a last State":      with(v, at(end, func(l *api.Link) { l.Header.State = turned(l.Header.State, 255) })),
		"a first Parent":    with(v, at(0, func(l *api.Link) { l.Header.Parent = hashed(9) }), mend),
		"a version of none": with(v, at(2, func(l *api.Link) { l.Root = 0 })),
		"other receipts":    with(v, telling(0, recs(256)...), telling(end, recs(256)...), mend),
		"a body at 0":       with(v, at(0, func(l *api.Link) { l.Body = copiedBody(busyBodies()[3]) })),
	}
}

func viewsThatMayBe() map[string]api.View {
	all := soundViews()
	for what, v := range unsoundViews() {
		all["not sound: "+what] = v
	}
	return all
}

func wrongViews() map[string]api.View {
	v, one := busy(), begun(few())
	end := len(v.Chain.Links) - 1
	inChain := func(f func(c *api.Chain)) func(v *api.View) { return func(v *api.View) { f(&v.Chain) } }
	return map[string]api.View{
		"nothing":                   {},
		"a Final of -1":             with(v, final(-1)),
		"a Final above the head":    with(v, final(end+1)),
		"a Final above the only":    with(one, final(1)),
		"a Final of -1 of one":      with(one, final(-1)),
		"the least Final":           with(v, final(math.MinInt)),
		"the greatest Final":        with(v, final(math.MaxInt)),
		"a Number of -1":            with(v, numbered(-1)),
		"a Number of 2^30":          with(v, numbered(1<<30)),
		"the least Number":          with(v, numbered(math.MinInt)),
		"the greatest Number":       with(v, numbered(math.MaxInt)),
		"down, and a Number of -1":  with(v, numbered(-1), down),
		"down, and a Final of -1":   with(v, final(-1), down),
		"no links":                  with(v, inChain(func(c *api.Chain) { c.Links = nil })),
		"no links, and Final -1":    with(v, final(-1), inChain(func(c *api.Chain) { c.Links = nil })),
		"no first link":             with(v, inChain(func(c *api.Chain) { c.Links = c.Links[1:] })),
		"no last link":              with(v, inChain(func(c *api.Chain) { c.Links = c.Links[:end] })),
		"a link too many":           with(long(api.MaxLinks), inChain(func(c *api.Chain) { c.Links = append(c.Links, c.Links[0]) })),
		"too many links":            {Chain: api.Chain{Links: make([]api.Link, 1000)}},
		"another Root":              with(v, inChain(func(c *api.Chain) { c.Tree.Root = 0 })),
		"a Root that is none":       with(v, at(2, func(l *api.Link) { l.Root = -1 })),
		"a last Root that is none":  with(v, at(end, func(l *api.Link) { l.Root = math.MaxInt }), inChain(func(c *api.Chain) { c.Tree.Root = math.MaxInt })),
		"a node that may not be":    with(v, inChain(func(c *api.Chain) { c.Tree.Nodes = append(c.Tree.Nodes, api.Node{}) })),
		"a Parent":                  with(v, at(3, func(l *api.Link) { l.Header.Parent = turned(l.Header.Parent, 255) })),
		"a Height":                  with(one, at(0, func(l *api.Link) { l.Header.Height = 1 })),
		"a Many":                    with(v, at(end, func(l *api.Link) { l.Header.Many++ })),
		"a receipt less":            with(v, at(1, func(l *api.Link) { l.Receipts = l.Receipts[1:] })),
		"a transaction not signed":  with(v, at(4, func(l *api.Link) { l.Body.Txs[1].Fee++ })),
		"17 deposits":               with(v, at(0, func(l *api.Link) { l.Body.Deposits = make([]api.Deposit, 17) })),
		"the last number, no chain": {Number: last},
		"down, no chain":            {Down: true},
	}
}

func TestCheck(t *testing.T) {
	for what, v := range viewsThatMayBe() {
		if e := view.Check(v); e != api.OK || !mayBe(v) {
			t.Errorf("%s: error %d, or by the model it may not be", what, e)
		}
	}
	if e := view.Check(with(long(api.MaxLinks), final(api.MaxLinks-1))); e != api.OK {
		t.Errorf("as long as may be: error %d", e)
	}
	for what, v := range wrongViews() {
		if e := view.Check(v); e != api.ErrBad || mayBe(v) {
			t.Errorf("%s: error %d, or by the model it may be", what, e)
		}
	}
}

// Check's error first, of every call.
func TestCheckIsAskedFirst(t *testing.T) {
	for what, v := range wrongViews() {
		for _, h := range []int{-1, 0, 5, 6, math.MaxInt, math.MinInt} {
			for _, window := range []int{-1, 0, 1, 64, math.MaxInt, math.MinInt} {
				wantBad(t, what, v, window, h, body(nil, make([]api.Tx, h&17)...))
			}
			if t.Failed() {
				return
			}
		}
	}
}

// P18.1: Same and Twin.

func everyone() map[string]api.View {
	all := viewsThatMayBe()
	for what, v := range wrongViews() {
		if len(v.Chain.Links) < 100 {
			all["wrong: "+what] = v
		}
	}
	return all
}

func TestSameAndTwin(t *testing.T) {
	all := everyone()
	for what, v := range all {
		if !view.Same(v, copied(v)) || !alike(view.Twin(v), v) || !view.Same(view.Twin(v), v) {
			t.Errorf("%s: it is not the same as its copy, or as its twin", what)
		}
		for which, w := range all {
			if view.Same(v, w) != alike(v, w) {
				t.Errorf("%s is the same as %s: not %t", what, which, alike(v, w))
			}
		}
	}
}

func TestOneFieldIsAnother(t *testing.T) {
	v := with(busy(), final(2))
	for what, f := range map[string]func(v *api.View){
		"the Number":      numbered(v.Number + 1),
		"a wrong Number":  numbered(-1),
		"down":            down,
		"the Final":       final(1),
		"a wrong Final":   final(77),
		"the tree's Root": func(v *api.View) { v.Chain.Tree.Root++ },
		"a node":          func(v *api.View) { v.Chain.Tree.Nodes[0].Key = turned(v.Chain.Tree.Nodes[0].Key, 255) },
		"a link less":     func(v *api.View) { v.Chain.Links = v.Chain.Links[:5] },
		"a header":        at(5, func(l *api.Link) { l.Header.Many++ }),
		"a link's Root":   at(2, func(l *api.Link) { l.Root++ }),
		"a deposit":       at(5, func(l *api.Link) { l.Body.Deposits[0].Number++ }),
		"a transaction":   at(4, func(l *api.Link) { l.Body.Txs[2].Nonce++ }),
		"a receipt":       at(4, func(l *api.Link) { l.Receipts[1].Code++ }),
	} {
		other := with(v, f)
		if view.Same(v, other) || view.Same(other, v) {
			t.Errorf("%s: it is the same", what)
		}
		if !alike(view.Twin(other), other) {
			t.Errorf("%s: its twin is another one", what)
		}
	}
}

// Lists that are empty, and lists that are nil, are the same.
func TestEmptyListsAreTheSame(t *testing.T) {
	none := []api.View{{}, {Chain: api.Chain{Links: []api.Link{}}}, {Chain: api.Chain{Tree: api.Tree{Nodes: []api.Node{}}}}}
	for _, a := range none {
		for _, b := range none {
			if !view.Same(a, b) || !alike(view.Twin(a), b) {
				t.Error("views of nothing are not the same")
			}
		}
	}
	v := small()
	empty := with(v, at(1, func(l *api.Link) {
		l.Body, l.Receipts = api.Body{Deposits: []api.Deposit{}, Txs: []api.Tx{}}, []api.Receipt{}
	}))
	if !view.Same(v, empty) || !view.Same(empty, v) || view.Check(empty) != api.OK {
		t.Error("blocks of nothing are not the same")
	}
}

// P18.1: Account.

func TestAccount(t *testing.T) {
	v := busy()
	heights := []struct {
		ann, bob, cid api.Account
	}{
		{account(0, 100), account(0, 7), api.Account{}},
		{account(2, 81), account(0, 24), account(0, 9)},
		{account(2, 81), account(0, 24), account(0, 9)},
		{account(2, 81), account(0, 24), account(0, 10)},
		{account(3, 85), account(1, 29), account(1, 2)},
		{account(3, 85), account(1, 29), account(1, 2)},
	}
	for h, w := range heights {
		for k, want := range (book{ann: w.ann, bob: w.bob, cid: w.cid, hashed(3): account(7, 1), hashed(4): {}, {}: {}, turned(ann, 255): {}}) {
			if a, e := view.Account(rolled(v, h), k); e != api.OK || a != want {
				t.Errorf("at %d: error %d, %v, want %v", h, e, a, want)
			}
		}
	}
}

// Of the head's state, and of nothing that its header, or another link, tells.
func TestAccountOfEveryView(t *testing.T) {
	for what, v := range viewsThatMayBe() {
		state := fine(chain.State(v.Chain, len(v.Chain.Links)-1))
		for _, k := range []api.Digest{ann, bob, cid, box, hashed(0), hashed(3), hashed(199), {}} {
			want := fine(acct.Get(state, k))
			if a, e := view.Account(v, k); e != api.OK || a != want {
				t.Errorf("%s: error %d, %v, want %v", what, e, a, want)
			}
		}
	}
}

// P18.1: Receipt.

func firstReceipt(v api.View, id api.Digest) (int, api.Receipt, api.Errno) {
	for h, l := range v.Chain.Links {
		for _, r := range l.Receipts {
			if r.Id == id {
				return h, r, api.OK
			}
		}
	}
	return 0, api.Receipt{}, api.ErrNone
}

func wantEachReceipt(t *testing.T, what string, v api.View) {
	t.Helper()
	for _, l := range v.Chain.Links {
		for _, r := range l.Receipts {
			for _, id := range []api.Digest{r.Id, turned(r.Id, 0), turned(r.Id, 255)} {
				h, told, e := firstReceipt(v, id)
				wantReceipt(t, what, v, id, h, told, e)
			}
		}
	}
}

func TestReceipts(t *testing.T) {
	for what, v := range viewsThatMayBe() {
		if what != "not sound: other receipts" {
			wantEachReceipt(t, what, v)
		}
		wantReceipt(t, what, v, api.Digest{}, 0, api.Receipt{}, api.ErrNone)
	}
	v := busy()
	over := receipt.Deposit(gift(10, ann, greatest))
	wantReceipt(t, "a deposit that is over", v, over, 3, api.Receipt{Kind: api.RecDeposit, Id: over, Code: api.ErrOver}, api.OK)
	poor := tx.Id(paying(1, ann, 0, 900, 2))
	wantReceipt(t, "a transaction that is poor", v, poor, 4, api.Receipt{Kind: api.RecTx, Id: poor, Code: api.ErrPoor}, api.OK)
	paid := tx.Id(paying(0, who(9), 2, 0, 0))
	wantReceipt(t, "one that is paid", v, paid, 4, api.Receipt{Kind: api.RecTx, Id: paid}, api.OK)
	wantReceipt(t, "one that is rolled back", rolled(v, 3), paid, 0, api.Receipt{}, api.ErrNone)
	twice := receipt.Deposit(gift(0, bob, 5))
	wantReceipt(t, "a deposit of 1 and 4", v, twice, 1, api.Receipt{Kind: api.RecDeposit, Id: twice}, api.OK)
}

// The lowest height, and of that the first one, wherever they stand.
func TestReceiptsOfOneId(t *testing.T) {
	v := long(6)
	id, other := hashed(1), hashed(2)
	for mask := range 1 << 6 {
		var changes []func(v *api.View)
		lowest := -1
		for h := range 6 {
			l := []api.Receipt{rec(other, api.ErrMany)}
			if mask>>h&1 == 1 {
				l = append(l, rec(id, api.Errno(h)), rec(id, api.ErrFull), rec(other, api.OK), rec(id, api.ErrPoor))
				if lowest < 0 {
					lowest = h
				}
			}
			changes = append(changes, telling(h, l...))
		}
		w := with(v, append(changes, mend)...)
		if lowest < 0 {
			wantReceipt(t, "none", w, id, 0, api.Receipt{}, api.ErrNone)
		} else {
			wantReceipt(t, fmt.Sprintf("%06b", mask), w, id, lowest, rec(id, api.Errno(lowest)), api.OK)
		}
		wantReceipt(t, "the other one", w, other, 0, rec(other, api.ErrMany), api.OK)
	}
}

// What a receipt of a chain that may be is, is asked of nobody.
func TestReceiptsOfAnyKind(t *testing.T) {
	odd := api.Receipt{Kind: 77, Code: -5}
	v := with(small(), telling(1, odd, rec(hashed(1), 0)))
	wantReceipt(t, "an odd one", v, api.Digest{}, 1, odd, api.OK)
	full := with(begun(few()), telling(0, recs(256)...))
	wantReceipt(t, "the first of 256", full, hashed(0), 0, rec(hashed(0), 0), api.OK)
	wantReceipt(t, "the last of 256", full, hashed(255), 0, rec(hashed(255), 0), api.OK)
	wantReceipt(t, "no one of 256", full, hashed(256), 0, api.Receipt{}, api.ErrNone)
}

// P18.1: Head.

func TestHead(t *testing.T) {
	for what, v := range viewsThatMayBe() {
		end := len(v.Chain.Links) - 1
		for h := range min(end+1, 8) {
			w := with(v, final(0), numbered(5))
			wantHead(t, fmt.Sprint(what, ", rolled back to ", h), rolled(w, h), h)
		}
		wantHead(t, what, v, end)
	}
	wantHead(t, "as long as may be", long(api.MaxLinks), 255)
}

func wantHead(t *testing.T, what string, v api.View, height int) {
	t.Helper()
	want, _ := header.Hash(v.Chain.Links[height].Header)
	if h, hash, e := view.Head(v); e != api.OK || h != height || hash != want {
		t.Errorf("%s: Head: error %d, height %d, hash %x, want height %d, hash %x", what, e, h, hash, height, want)
	}
}

// A head alone that may not be as a header has, as layer 14 tells it, no hash.
func TestHeadThatMayNotBe(t *testing.T) {
	v := with(begun(few()), telling(0, recs(257)...))
	if e := view.Check(v); e != api.OK {
		t.Errorf("257 receipts: error %d", e)
	}
	wantNoHead(t, "257 receipts", api.ErrBad, v)
	wantReceipt(t, "257 receipts", v, hashed(256), 0, rec(hashed(256), 0), api.OK)
	out, e := view.Seal(v, api.Body{}, box)
	wantNoView(t, "257 receipts: Seal", api.ErrBad, out, e)
	wantHead(t, "256 receipts", with(v, telling(0, recs(256)...)), 0)
}

// P18.2: Proof.

// Numbers without end, as the head's less the window may be below all others.
func isTold(head, window, h int) bool {
	least := new(big.Int).Sub(big.NewInt(int64(head)), big.NewInt(int64(window)))
	return 0 <= h && h <= head && big.NewInt(int64(h)).Cmp(least) > 0
}

func wantProof(t *testing.T, what string, v api.View, window, h int, k api.Digest) {
	t.Helper()
	if !isTold(len(v.Chain.Links)-1, window, h) {
		wantNoProof(t, what, api.ErrGone, v, window, h, k)
		return
	}
	version := fine(chain.State(v.Chain, h))
	want := fine(proof.Make(version, k))
	root, p, e := view.Proof(v, window, h, k)
	if e != api.OK || root != v.Chain.Links[h].Header.State || !proof.Same(p, want) {
		t.Errorf("%s: Proof at %d within %d: error %d, root %x, %v, want %v", what, h, window, e, root, p, want)
	}
	if sum := fine(tree.Sum(version)); !verify.Fits(p, sum) {
		t.Errorf("%s: Proof at %d within %d: it does not fit the sum of its version", what, h, window)
	}
	if chain.Sound(v.Chain, box) && !verify.Fits(p, root) {
		t.Errorf("%s: Proof at %d within %d: it does not fit its root", what, h, window)
	}
}

func TestProof(t *testing.T) {
	keys := []api.Digest{ann, bob, cid, box, hashed(3), hashed(4), {}, turned(ann, 255), turned(cid, 0)}
	for what, v := range viewsThatMayBe() {
		end := len(v.Chain.Links) - 1
		for h := -1; h <= min(end, 7)+1; h++ {
			for _, k := range keys {
				wantProof(t, what, v, 64, h, k)
			}
		}
	}
}

func TestProofWithinAWindow(t *testing.T) {
	odd := []int{math.MinInt, math.MinInt + 1, math.MinInt + 6, -64, -2, -1, 0, 1, 2, 3, 4, 5, 6, 7, 8, 39, 40, 41, 63, 64, 65, 256, math.MaxInt - 6, math.MaxInt - 1, math.MaxInt}
	for what, v := range map[string]api.View{"of nothing": begun(nil), "small": small(), "busy": busy(), "long": with(long(40), final(30))} {
		for _, window := range odd {
			for _, h := range odd {
				wantProof(t, what, v, window, h, ann)
			}
		}
	}
}

// What is final, and whether it is down, is not asked.
func TestProofOfWhatIsFinal(t *testing.T) {
	for _, f := range []int{0, 2, 5} {
		v := with(busy(), final(f), down)
		for h := range 6 {
			wantProof(t, "final", v, 3, h, bob)
		}
	}
}

func TestProofsAreOfTheirHeight(t *testing.T) {
	v := busy()
	for h, want := range []api.Account{{}, account(0, 9), account(0, 9), account(0, 10), account(1, 2), account(1, 2)} {
		_, p, e := view.Proof(v, 6, h, cid)
		value, is := proof.Told(p)
		if e != api.OK || is != (want != api.Account{}) || is && !bytes.Equal(value, acct.Bytes(want)) {
			t.Errorf("at %d: error %d, %t, %v, want %v", h, e, is, value, want)
		}
	}
}

// P18.3: Seal.

// By the chapter's words, of a view that may be.
func wantSeal(t *testing.T, what string, v api.View, b api.Body, box api.Digest) (api.View, api.Errno) {
	t.Helper()
	out, e := view.Seal(v, b, box)
	c, wrong := chain.Add(v.Chain, b, box)
	if v.Number == last {
		wrong = api.ErrFull
	}
	if wrong != api.OK {
		wantNoView(t, what+": Seal", wrong, out, e)
		return v, wrong
	}
	wantView(t, what+": Seal", out, e, api.View{Number: v.Number + 1, Down: v.Down, Final: v.Final, Chain: c})
	return out, e
}

func bodies() map[string]api.Body {
	return map[string]api.Body{
		"nothing":         {},
		"a deposit":       giving(gift(5, cid, 5)),
		"over":            giving(gift(5, cid, 5), gift(6, cid, greatest)),
		"a transaction":   body(nil, paying(1, ann, 1, 1, 1)),
		"17 deposits":     giving(make([]api.Deposit, 17)...),
		"17 transactions": body(nil, make([]api.Tx, 17)...),
		"one not signed":  body(nil, api.Tx{}),
		"another nonce":   body(nil, paying(1, ann, 9, 1, 1)),
	}
}

func TestSeal(t *testing.T) {
	told := map[api.Errno]int{}
	for what, v := range viewsThatMayBe() {
		for which, b := range bodies() {
			for _, to := range []api.Digest{box, {}, ann} {
				_, e := wantSeal(t, what+": "+which, v, b, to)
				told[e]++
			}
		}
	}
	for _, e := range []api.Errno{api.OK, api.ErrFull, api.ErrMany, api.ErrSign, api.ErrArg} {
		if told[e] < 5 {
			t.Errorf("error %d is told only %d times", e, told[e])
		}
	}
}

func TestSealOfAsManyLinksAsMayBe(t *testing.T) {
	full, _ := wantSeal(t, "the last one", with(long(api.MaxLinks-1), final(7)), giving(gift(5, cid, 5)), box)
	for what, b := range bodies() {
		if _, e := wantSeal(t, what, full, b, box); e != api.ErrFull {
			t.Errorf("%s: error %d", what, e)
		}
	}
	wantConfirm(t, "as long as may be", full, 255)
	wantRoll(t, "as long as may be", full, 7)
	wantStop(t, "as long as may be", full)
}

// P18.3: Confirm.

func wantConfirm(t *testing.T, what string, v api.View, h int) (api.View, api.Errno) {
	t.Helper()
	out, e := view.Confirm(v, h)
	wrong := turnsTo(v, h)
	if wrong != api.OK {
		wantNoView(t, fmt.Sprint(what, ": Confirm ", h), wrong, out, e)
		return v, wrong
	}
	wantView(t, fmt.Sprint(what, ": Confirm ", h), out, e, api.View{Number: v.Number + 1, Down: v.Down, Final: h, Chain: v.Chain})
	return out, e
}

// Of a view that may be.
func turnsTo(v api.View, h int) api.Errno {
	switch {
	case v.Number == last:
		return api.ErrFull
	case h < v.Final || h > len(v.Chain.Links)-1:
		return api.ErrFinal
	}
	return api.OK
}

func heightsAbout(v api.View) []int {
	l := []int{math.MinInt, math.MaxInt, 255, 256, len(v.Chain.Links) - 2, len(v.Chain.Links) - 1, len(v.Chain.Links), v.Final - 1, v.Final, v.Final + 1}
	for h := -1; h < 8; h++ {
		l = append(l, h)
	}
	return l
}

func TestConfirm(t *testing.T) {
	for what, v := range viewsThatMayBe() {
		for _, h := range heightsAbout(v) {
			wantConfirm(t, what, v, h)
		}
	}
}

// P18.3: Roll.

func wantRoll(t *testing.T, what string, v api.View, h int) (api.View, api.Errno) {
	t.Helper()
	wrong := turnsTo(v, h)
	if wrong != api.OK {
		wantNoRoll(t, what, wrong, v, h)
		return v, wrong
	}
	out, dropped, e := view.Roll(v, h)
	c := api.Chain{Tree: api.Tree{Nodes: v.Chain.Tree.Nodes, Root: v.Chain.Links[h].Root}, Links: v.Chain.Links[:h+1]}
	wantView(t, fmt.Sprint(what, ": Roll to ", h), out, e, api.View{Number: v.Number + 1, Down: v.Down, Final: v.Final, Chain: c})
	var want []api.Body
	for _, l := range v.Chain.Links[h+1:] {
		want = append(want, l.Body)
	}
	if !slices.EqualFunc(dropped, want, alikeBodies) {
		t.Errorf("%s: Roll to %d: dropped are %v, want %v", what, h, dropped, want)
	}
	return out, e
}

func TestRoll(t *testing.T) {
	for what, v := range viewsThatMayBe() {
		for _, h := range heightsAbout(v) {
			wantRoll(t, what, v, h)
		}
	}
}

func TestDropped(t *testing.T) {
	for h := range 6 {
		_, dropped, e := view.Roll(busy(), h)
		if e != api.OK || !slices.EqualFunc(dropped, busyBodies()[h:], alikeBodies) {
			t.Errorf("Roll to %d: error %d, %v", h, e, dropped)
		}
	}
	v := with(busy(), at(0, func(l *api.Link) { l.Body = giving(gift(1, ann, 1)) }))
	if _, dropped, e := view.Roll(v, 0); e != api.OK || !slices.EqualFunc(dropped, busyBodies(), alikeBodies) {
		t.Errorf("the body at 0 is dropped: error %d, %v", e, dropped)
	}
}

// P18.3: Stop.

func wantStop(t *testing.T, what string, v api.View) (api.View, api.Errno) {
	t.Helper()
	out, e := view.Stop(v)
	if v.Number == last {
		wantNoView(t, what+": Stop", api.ErrFull, out, e)
		return v, api.ErrFull
	}
	wantView(t, what+": Stop", out, e, api.View{Number: v.Number + 1, Down: true, Final: v.Final, Chain: v.Chain})
	return out, e
}

func TestStop(t *testing.T) {
	for what, v := range viewsThatMayBe() {
		out, e := wantStop(t, what, v)
		if e == api.OK && out.Number < last {
			wantStop(t, what+": once more", out)
		}
	}
}

// A view that is down is read, and turns, as another one does.
func TestTurnsOfAViewThatIsDown(t *testing.T) {
	v, _ := wantStop(t, "busy", busy())
	sealed, _ := wantSeal(t, "down", v, api.Body{}, box)
	confirmed, _ := wantConfirm(t, "down", sealed, 3)
	back, e := wantRoll(t, "down", confirmed, 3)
	if e != api.OK || back.Number != 9 || !back.Down {
		t.Errorf("down: error %d, %s", e, brief(back))
	}
	wantHead(t, "down", back, 3)
	wantEachReceipt(t, "down", back)
	if a, e := view.Account(back, ann); e != api.OK || a != account(2, 81) {
		t.Errorf("down: Account: error %d, %v", e, a)
	}
}

// P18.3: the last Number.

func TestTheLastNumber(t *testing.T) {
	v := with(busy(), numbered(last), final(2))
	for _, h := range []int{-1, 0, 1, 2, 5, 6, math.MinInt, math.MaxInt} {
		for what, b := range bodies() {
			wantNoTurn(t, what, api.ErrFull, v, b, h)
		}
	}
	before := with(v, numbered(last-1))
	for what, turn := range map[string]func() (api.View, api.Errno){
		"Seal":    func() (api.View, api.Errno) { return wantSeal(t, "the last but one", before, api.Body{}, box) },
		"Confirm": func() (api.View, api.Errno) { return wantConfirm(t, "the last but one", before, 5) },
		"Roll":    func() (api.View, api.Errno) { return wantRoll(t, "the last but one", before, 2) },
		"Stop":    func() (api.View, api.Errno) { return wantStop(t, "the last but one", before) },
	} {
		out, e := turn()
		if e != api.OK || out.Number != last {
			t.Errorf("%s: error %d, number %d", what, e, out.Number)
		}
		wantNoTurn(t, what, api.ErrFull, out, api.Body{}, 3)
		wantProof(t, what, out, 64, 2, ann)
	}
	for what, f := range map[string]func(v *api.View){"a Final of -1": final(-1), "no links": func(v *api.View) { v.Chain.Links = nil }} {
		wantNoTurn(t, what, api.ErrBad, with(v, f), api.Body{}, 3)
	}
}

// P18.4: what is handed in is only read, what is answered is new memory.

// What stands behind a list's end, or a value's, is its caller's: neither read nor changed.
func roomy(v api.View) api.View {
	out := copied(v)
	for i, at := range out.Chain.Tree.Nodes {
		out.Chain.Tree.Nodes[i].Value = roomyList(at.Value, 0xee)
	}
	for i, l := range out.Chain.Links {
		out.Chain.Links[i].Body = roomyBody(l.Body)
		out.Chain.Links[i].Receipts = roomyList(l.Receipts, api.Receipt{Kind: 77})
	}
	out.Chain.Tree.Nodes = roomyList(out.Chain.Tree.Nodes, api.Node{Leaf: true, Key: hashed(78)})
	out.Chain.Links = roomyList(out.Chain.Links, api.Link{Root: 77})
	return out
}

func roomyBody(b api.Body) api.Body {
	return api.Body{Deposits: roomyList(b.Deposits, gift(77, hashed(77), 7)), Txs: roomyList(b.Txs, paying(7, hashed(77), 7, 7, 7))}
}

func roomyList[T any](l []T, beyond T) []T {
	out := append(make([]T, 0, len(l)+2), l...)
	for i := range 2 {
		out[:cap(out)][len(l)+i] = beyond
	}
	return out
}

// All of what is answered: a view, bodies, a proof.
type answer struct {
	v       api.View
	dropped []api.Body
	p       api.Proof
}

func whole[T any](l []T) []T {
	return l[:cap(l)]
}

func wholly(a answer) string {
	b := fmt.Append(nil, a.v.Number, a.v.Down, a.v.Final, a.v.Chain.Tree.Root, len(a.v.Chain.Tree.Nodes), len(a.v.Chain.Links), "\n")
	for _, at := range whole(a.v.Chain.Tree.Nodes) {
		b = fmt.Appendf(b, "%t %x %d: %x %d %d\n", at.Leaf, at.Key, len(at.Value), whole(at.Value), at.Left, at.Right)
	}
	for _, l := range whole(a.v.Chain.Links) {
		b = fmt.Append(b, l.Header, l.Root, whollyBody(l.Body), len(l.Receipts), whole(l.Receipts), "\n")
	}
	for _, d := range whole(a.dropped) {
		b = fmt.Append(b, whollyBody(d), "\n")
	}
	return string(fmt.Append(b, a.p.Key, a.p.End, a.p.Other, len(a.p.Value), whole(a.p.Value), len(a.p.Sides), whole(a.p.Sides)))
}

func whollyBody(b api.Body) string {
	return fmt.Sprint(len(b.Deposits), whole(b.Deposits), len(b.Txs), whole(b.Txs))
}

// Without what stands behind the lists' ends.
func (a answer) copied() answer {
	out := answer{v: copied(a.v), p: a.p}
	for _, b := range a.dropped {
		out.dropped = append(out.dropped, copiedBody(b))
	}
	out.dropped = slices.Clip(out.dropped)
	out.p.Value, out.p.Sides = slices.Clone(a.p.Value), slices.Clone(a.p.Sides)
	return out
}

// Also what an append to it would write to.
func overwrite(a answer) {
	for _, at := range whole(a.v.Chain.Tree.Nodes) {
		overwriteList(at.Value, 0xdd)
	}
	overwriteList(a.v.Chain.Tree.Nodes, api.Node{Leaf: true, Key: hashed(99)})
	for _, l := range whole(a.v.Chain.Links) {
		overwriteBody(l.Body)
		overwriteList(l.Receipts, rec(hashed(79), 80))
	}
	overwriteList(a.v.Chain.Links, api.Link{Root: 79})
	for _, b := range whole(a.dropped) {
		overwriteBody(b)
	}
	overwriteList(a.dropped, giving(gift(77, ann, 7)))
	overwriteList(a.p.Value, 0xdd)
	overwriteList(a.p.Sides, hashed(98))
}

func overwriteBody(b api.Body) {
	overwriteList(b.Deposits, gift(79, hashed(79), 9))
	overwriteList(b.Txs, api.Tx{Nonce: 79})
}

func overwriteList[T any](l []T, by T) {
	for i := range whole(l) {
		whole(l)[i] = by
	}
}

// All calls whose answers have lists.
func calls(b api.Body) map[string]func(v api.View) answer {
	only := func(v api.View, _ api.Errno) answer { return answer{v: v} }
	all := map[string]func(v api.View) answer{
		"Twin": func(v api.View) answer { return answer{v: view.Twin(v)} },
		"Seal": func(v api.View) answer { return only(view.Seal(v, b, box)) },
		"Stop": func(v api.View) answer { return only(view.Stop(v)) },
	}
	for h := range 4 {
		all[fmt.Sprint("Confirm ", h)] = func(v api.View) answer { return only(view.Confirm(v, h)) }
		all[fmt.Sprint("Roll to ", h)] = func(v api.View) answer {
			out, dropped, _ := view.Roll(v, h)
			return answer{v: out, dropped: dropped}
		}
		all[fmt.Sprint("Proof at ", h)] = func(v api.View) answer {
			_, p, _ := view.Proof(v, 64, h, ann)
			return answer{p: p}
		}
	}
	return all
}

func TestWhatIsHandedInStays(t *testing.T) {
	for what, v := range everyone() {
		in, b := roomy(v), roomyBody(body([]api.Deposit{gift(5, cid, 5)}, paying(1, ann, 1, 1, 1)))
		before, beforeBody := wholly(answer{v: in}), whollyBody(b)
		for _, call := range calls(b) {
			call(in)
		}
		view.Check(in)
		view.Account(in, ann)
		view.Receipt(in, receipt.Deposit(gift(0, bob, 5)))
		view.Head(in)
		view.Same(in, v)
		view.Same(v, in)
		if wholly(answer{v: in}) != before || whollyBody(b) != beforeBody {
			t.Errorf("%s: it is changed, or the body", what)
		}
	}
}

// What is answered is overwritten, and changes neither what was handed in nor what is
// answered behind it; nor is it changed with what was handed in.
func TestWhatIsAnsweredIsNewMemory(t *testing.T) {
	for what, v := range everyone() {
		b := roomyBody(body([]api.Deposit{gift(5, cid, 5)}, paying(1, ann, 1, 1, 1)))
		before, beforeBody := wholly(answer{v: roomy(v)}), whollyBody(b)
		for which, call := range calls(b) {
			in := roomy(v)
			first, second := call(in), call(in)
			want := wholly(second.copied())
			overwrite(first)
			if wholly(answer{v: in}) != before || whollyBody(b) != beforeBody {
				t.Errorf("%s: %s: what is answered is not new memory", what, which)
			}
			if wholly(second.copied()) != want {
				t.Errorf("%s: %s: what is answered twice shares memory", what, which)
			}
			third := call(in)
			overwrite(answer{v: in})
			if wholly(third.copied()) != want {
				t.Errorf("%s: %s: what is answered is changed with what was handed in", what, which)
			}
		}
	}
}

func TestABodyIsCopied(t *testing.T) {
	b := body([]api.Deposit{gift(5, cid, 5)}, paying(1, ann, 1, 1, 1))
	v := sealed(busy(), b)
	want := wholly(answer{v: v})
	overwriteBody(b)
	if wholly(answer{v: v}) != want {
		t.Error("what is answered is changed with the body")
	}
}

// No two lists that are answered share memory.
func TestListsThatAreAnsweredAreEachTheirOwn(t *testing.T) {
	for which, call := range calls(body([]api.Deposit{gift(5, cid, 5)}, paying(1, ann, 1, 1, 1))) {
		out := call(busy())
		for i := range out.v.Chain.Tree.Nodes {
			wantAlone(t, fmt.Sprint(which, ": node ", i), out, func(a answer) {
				overwriteList(a.v.Chain.Tree.Nodes[i].Value, byte(i))
			})
		}
		for i := range out.v.Chain.Links {
			wantAlone(t, fmt.Sprint(which, ": link ", i), out, func(a answer) {
				overwriteBody(a.v.Chain.Links[i].Body)
				overwriteList(a.v.Chain.Links[i].Receipts, rec(hashed(i), 80))
			})
		}
		for i := range out.dropped {
			wantAlone(t, fmt.Sprint(which, ": body ", i), out, func(a answer) { overwriteBody(a.dropped[i]) })
		}
	}
}

// What is changed changes nothing else.
func wantAlone(t *testing.T, what string, a answer, change func(a answer)) {
	t.Helper()
	want := a.copied()
	change(a)
	change(want)
	if wholly(a.copied()) != wholly(want) {
		t.Errorf("%s: its lists change others", what)
	}
}

// P18.5: what is final stays, proofs fit, each view is told by itself alone.

// A walk is a view that turns.
type walk struct {
	v      api.View
	seen   map[string]int
	random *rand.Rand
}

const people = 4

// Often few, so that they are met again, and often so great that something runs over.
func (w *walk) number() uint64 {
	return w.random.Uint64() >> []int{0, 1, 50, 58, 60, 62, 64}[w.random.Intn(7)]
}

// Each transaction by its sender's nonce there, but for few: those are refused.
func (w *walk) body() api.Body {
	var b api.Body
	for range w.random.Intn(3) {
		b.Deposits = append(b.Deposits, gift(w.number(), who(w.random.Intn(people)), w.number()))
	}
	used := map[int]uint64{}
	for range w.random.Intn(4) {
		i := w.random.Intn(people)
		nonce := fine(view.Account(w.v, who(i))).Nonce + used[i] + uint64(w.random.Intn(20)/19)
		used[i]++
		b.Txs = append(b.Txs, paying(i, who(w.random.Intn(people)), nonce, w.number(), w.number()>>50))
	}
	return b
}

// A height often near the head's, and at times none that may be turned to.
func (w *walk) height() int {
	head := len(w.v.Chain.Links) - 1
	return []int{head, head - 1, head - 2, w.v.Final, w.v.Final - 1, w.v.Final + 1, head + 1, -1}[w.random.Intn(8)]
}

func (w *walk) turn(t *testing.T) {
	was := w.v
	var e api.Errno
	which := []string{"Seal", "Seal", "Seal", "Seal", "Confirm", "Roll", "Stop"}[w.random.Intn(7)]
	switch which {
	case "Seal":
		w.v, e = wantSeal(t, "on a walk", was, w.body(), box)
	case "Confirm":
		w.v, e = wantConfirm(t, "on a walk", was, w.height())
	case "Roll":
		w.v, e = wantRoll(t, "on a walk", was, w.height())
	case "Stop":
		w.v, e = wantStop(t, "on a walk", was)
	}
	w.seen[fmt.Sprint(which, ": error ", int(e))]++
	wantFinal(t, was, w.v)
}

// wantFinal holds what is told of each height that was final against what is told of it.
func wantFinal(t *testing.T, was, v api.View) {
	t.Helper()
	if v.Final < was.Final || len(v.Chain.Links) <= was.Final {
		t.Errorf("%s, and it was %s", brief(v), brief(was))
		return
	}
	for h := range was.Final + 1 {
		if !alikeBlocks(v.Chain.Links[h], was.Chain.Links[h]) {
			t.Errorf("what is final at %d is another block", h)
		}
		wantToldOf(t, h, was, v)
		for _, r := range was.Chain.Links[h].Receipts {
			height, told, e := view.Receipt(was, r.Id)
			wantReceipt(t, "what is final", v, r.Id, height, told, e)
		}
	}
}

func wantToldOf(t *testing.T, h int, was, v api.View) {
	t.Helper()
	for i := range people {
		root, p, e := view.Proof(was, 256, h, who(i))
		again, q, f := view.Proof(v, 256, h, who(i))
		if e != api.OK || f != api.OK || root != again || !proof.Same(p, q) {
			t.Errorf("a proof at %d, that is final, is another one: errors %d and %d, %v, %v", h, e, f, p, q)
		}
		if !verify.Fits(p, root) {
			t.Errorf("a proof at %d does not fit its root", h)
		}
	}
}

func TestWalks(t *testing.T) {
	seen := map[string]int{}
	for seed := range int64(10) {
		w := &walk{v: begun(crowd(int(seed))), seen: seen, random: rand.New(rand.NewSource(seed))}
		for range 40 {
			w.turn(t)
			if !chain.Sound(w.v.Chain, box) {
				t.Errorf("its chain is not sound: %s", brief(w.v))
			}
			if t.Failed() {
				t.Fatalf("in walk %d", seed)
			}
		}
	}
	for _, few := range []string{"Seal: error 0", "Seal: error 2", "Confirm: error 0", "Confirm: error 170", "Roll: error 0", "Roll: error 170", "Stop: error 0"} {
		if seen[few] < 5 {
			t.Errorf("%s is told too seldom: %v", few, seen)
		}
	}
}

// All that is read of a view, as a text.
func reads(v api.View) string {
	var b []byte
	for i := range people {
		a, e := view.Account(v, who(i))
		b = fmt.Append(b, a, int(e))
		for h := range len(v.Chain.Links) + 1 {
			root, p, e := view.Proof(v, 4, h, who(i))
			b = fmt.Append(b, root, p, int(e))
		}
	}
	for _, body := range busyBodies() {
		for _, d := range body.Deposits {
			h, r, e := view.Receipt(v, receipt.Deposit(d))
			b = fmt.Append(b, h, r, int(e))
		}
	}
	h, hash, e := view.Head(v)
	return string(fmt.Append(b, h, hash, int(e)))
}

// What is read of a view is the same whatever has become of others, of those that it
// turned to among them.
func TestAViewIsReadByItself(t *testing.T) {
	v := begun(few())
	views, told := []api.View{v}, []string{reads(v)}
	put := func(next api.View) {
		v = next
		views, told = append(views, v), append(told, reads(v))
	}
	for i, b := range busyBodies() {
		put(sealed(v, b))
		put(confirmed(v, i/2))
	}
	put(rolled(v, 3))
	put(sealed(v, giving(gift(0, bob, 5))))
	put(fine(view.Stop(v)))
	for i, v := range views {
		if reads(v) != told[i] {
			t.Errorf("view %d is read otherwise than it was", i)
		}
	}
}

// What is sealed anew, behind a rollback, has another height's block no more.
func TestARollbackForgets(t *testing.T) {
	v := busy()
	id := receipt.Deposit(gift(9, cid, 1))
	back := sealed(rolled(v, 2), api.Body{}, giving(gift(9, cid, 1)))
	wantReceipt(t, "busy", v, id, 3, api.Receipt{Kind: api.RecDeposit, Id: id}, api.OK)
	wantReceipt(t, "sealed anew", back, id, 4, api.Receipt{Kind: api.RecDeposit, Id: id}, api.OK)
	for h := range 5 {
		wantProof(t, "sealed anew", back, 64, h, cid)
	}
}

// P1: whatever it is handed, each call ends; what is told is held against the models.

func randomChange(random *rand.Rand, v *api.View) {
	if len(v.Chain.Links) == 0 {
		return
	}
	i := random.Intn(len(v.Chain.Links))
	l := &v.Chain.Links[i]
	switch random.Intn(11) {
	case 0:
		v.Number = []int{-1, 0, 1, 7, last - 1, last, last + 1, math.MaxInt, math.MinInt}[random.Intn(9)]
	case 1:
		v.Final = random.Intn(len(v.Chain.Links)+2) - 1
	case 2:
		v.Down = !v.Down
	case 3:
		l.Header.State[0] ^= 1
	case 4:
		l.Header.Many = random.Intn(3) - 1
	case 5:
		l.Root = random.Intn(len(v.Chain.Tree.Nodes)+3) - 1
	case 6:
		v.Chain.Tree.Root, v.Chain.Links[len(v.Chain.Links)-1].Root = i, i
	case 7:
		telling(i, recs(random.Intn(3))...)(v)
	case 8:
		l.Body.Txs = make([]api.Tx, random.Intn(2))
	case 9:
		v.Chain.Links = v.Chain.Links[:i]
	case 10:
		v.Chain.Tree.Nodes = append(v.Chain.Tree.Nodes, api.Node{Leaf: true, Key: ann, Value: make([]byte, random.Intn(2))})
	}
}

func TestWhateverIsHandedIn(t *testing.T) {
	random := rand.New(rand.NewSource(18))
	from := slices.Collect(maps.Values(map[string]api.View{"busy": with(busy(), final(2)), "begun": begun(few()), "nothing": begun(nil), "small": small(), "rolled": rolled(busy(), 3)}))
	slices.SortFunc(from, func(a, b api.View) int {
		return len(a.Chain.Tree.Nodes)*99 + a.Number - len(b.Chain.Tree.Nodes)*99 - b.Number
	})
	seen := map[bool]int{}
	for range 3000 {
		v := copied(from[random.Intn(len(from))])
		for range random.Intn(4) {
			randomChange(random, &v)
		}
		if len(v.Chain.Links) > 0 && random.Intn(2) == 0 {
			mend(&v)
		}
		h, window, what := random.Intn(9)-1, random.Intn(9)-1, brief(v)
		b := body(nil, paying(0, bob, uint64(random.Intn(3)), 1, 1))
		seen[mayBe(v)]++
		if !mayBe(v) {
			wantBad(t, what, v, window, h, b)
		} else {
			wantSeal(t, what, v, b, box)
			wantConfirm(t, what, v, h)
			wantRoll(t, what, v, h)
			wantStop(t, what, v)
			wantProof(t, what, v, window, h, ann)
			wantHead(t, what, v, len(v.Chain.Links)-1)
			wantEachReceipt(t, what, v)
		}
		if t.Failed() {
			t.FailNow()
		}
	}
	if seen[true] < 500 || seen[false] < 500 {
		t.Errorf("too few that may be, or that may not: %v", seen)
	}
}
