package block_test

import (
	"bytes"
	"crypto/sha256"
	"encoding/binary"
	"fmt"
	"maps"
	"math"
	"math/big"
	"math/bits"
	"math/rand"
	"slices"
	"strings"
	"testing"

	"beadroll/acct"
	"beadroll/api"
	"beadroll/block"
	"beadroll/header"
	"beadroll/rows"
	"beadroll/tag"
	"beadroll/tree"
	"beadroll/tx"
)

// As the chapter tells it: what must be free beside, and for each part.
const (
	spareRoom = 1200
	giftRoom  = 300
	payRoom   = 1200
)

const greatest = math.MaxUint64

func hashed(i int) api.Digest {
	return sha256.Sum256([]byte(fmt.Sprint("block ", i)))
}

func filled(b byte) api.Digest {
	return api.Digest(bytes.Repeat([]byte{b}, 32))
}

func turned(k api.Digest, i int) api.Digest {
	k[i/8] ^= 128 >> (i % 8)
	return k
}

// No byte is like the one beside it, so that one that is left out or turned round shows.
func counted(n int) []byte {
	b := make([]byte, n)
	for i := range b {
		b[i] = byte(i*7 + 3)
	}
	return b
}

func account(nonce, balance uint64) api.Account {
	return api.Account{Nonce: nonce, Balance: balance}
}

// Numbers in bytes, and what is digested of kinds and parts, by the chapters' words and
// not by the program's packages.

func eight(n uint64) []byte {
	return binary.BigEndian.AppendUint64(nil, n)
}

func bytesOf(a api.Account) []byte {
	return append(eight(a.Nonce), eight(a.Balance)...)
}

func tagged(kind byte, parts ...[]byte) api.Digest {
	b := []byte{kind}
	for _, p := range parts {
		b = append(binary.BigEndian.AppendUint32(b, uint32(len(p))), p...)
	}
	return sha256.Sum256(b)
}

func txBytes(x api.Tx) []byte {
	return slices.Concat(x.Pub[:], x.To[:], eight(x.Nonce), eight(x.Amount), eight(x.Fee))
}

func depositId(d api.Deposit) api.Digest {
	return tagged(9, slices.Concat(eight(d.Number), d.To[:], eight(d.Amount)))
}

func txId(x api.Tx) api.Digest {
	return tagged(5, append(txBytes(x), x.Sign[:]...))
}

func isSigned(x api.Tx) bool {
	return x.Sign == tagged(4, txBytes(x))
}

func hashOf(h api.Header) api.Digest {
	many := binary.BigEndian.AppendUint32(nil, uint32(h.Many))
	return tagged(6, slices.Concat(eight(uint64(h.Height)), h.Parent[:], h.State[:], h.Rows[:], many))
}

func rowsRoot(l []api.Receipt) api.Digest {
	switch len(l) {
	case 0:
		return tagged(0)
	case 1:
		r := l[0]
		return tagged(7, slices.Concat([]byte{r.Kind}, r.Id[:], binary.BigEndian.AppendUint16(nil, uint16(r.Code))))
	}
	cut := 1 << (bits.Len(uint(len(l)-1)) - 1)
	left, right := rowsRoot(l[:cut]), rowsRoot(l[cut:])
	return tagged(8, left[:], right[:])
}

// The public digest of the person i, and the key of its account.
func pub(i int) api.Digest {
	return hashed(1000 + i)
}

func who(i int) api.Digest {
	return keyOf(pub(i))
}

func keyOf(pub api.Digest) api.Digest {
	return tagged(3, pub[:])
}

var (
	ann = who(0)
	bob = who(1)
	cid = who(2)
	box = who(3)
)

// A transaction of the person i's, signed.
func paying(i int, to api.Digest, nonce, amount, fee uint64) api.Tx {
	x := api.Tx{Pub: pub(i), To: to, Nonce: nonce, Amount: amount, Fee: fee}
	x.Sign = tagged(4, txBytes(x))
	return x
}

func gift(number uint64, to api.Digest, amount uint64) api.Deposit {
	return api.Deposit{Number: number, To: to, Amount: amount}
}

// So many deposits, each of another number.
func gifts(n int, to api.Digest, amount uint64) []api.Deposit {
	var l []api.Deposit
	for i := range n {
		l = append(l, gift(uint64(i), to, amount))
	}
	return l
}

// So many transactions of the person i's, by their nonces from the first one on.
func payments(n, i int, to api.Digest, nonce, amount, fee uint64) []api.Tx {
	var l []api.Tx
	for at := range uint64(n) {
		l = append(l, paying(i, to, nonce+at, amount, fee))
	}
	return l
}

func body(d []api.Deposit, x ...api.Tx) api.Body {
	return api.Body{Deposits: d, Txs: x}
}

// A header that may be, with nothing that is zero.
func parentAt(height int) api.Header {
	return api.Header{Height: height, Parent: hashed(11), State: hashed(12), Rows: hashed(13), Many: 5}
}

// A book tells the accounts that a state is to have, and none that is zero.
type book map[api.Digest]api.Account

func (b book) with(k api.Digest, a api.Account) book {
	out := maps.Clone(b)
	if a == (api.Account{}) {
		delete(out, k)
	} else {
		out[k] = a
	}
	return out
}

func (b book) keys() []api.Digest {
	return slices.SortedFunc(maps.Keys(b), func(k, l api.Digest) int { return bytes.Compare(k[:], l[:]) })
}

func (b book) total() *big.Int {
	sum := new(big.Int)
	for _, a := range b {
		sum.Add(sum, new(big.Int).SetUint64(a.Balance))
	}
	return sum
}

func (b book) root() api.Digest {
	return b.rootOf(b.keys(), 0)
}

// Of keys in order that share all bits ahead of that one.
func (b book) rootOf(keys []api.Digest, bit int) api.Digest {
	switch len(keys) {
	case 0:
		return tagged(0)
	case 1:
		return tagged(1, keys[0][:], bytesOf(b[keys[0]]))
	}
	cut := slices.IndexFunc(keys, func(k api.Digest) bool { return k[bit/8]&(128>>(bit%8)) != 0 })
	if cut < 0 {
		cut = len(keys)
	}
	left, right := b.rootOf(keys[:cut], bit+1), b.rootOf(keys[cut:], bit+1)
	return tagged(2, left[:], right[:])
}

// Each amount given to its key; instead, if one would run over.
func (b book) given(instead book, to []api.Digest, amounts ...uint64) (book, api.Errno) {
	out := b
	for i, k := range to {
		a := out[k]
		balance := sum(a.Balance, amounts[i])
		if !balance.IsUint64() {
			return instead, api.ErrOver
		}
		out = out.with(k, account(a.Nonce, balance.Uint64()))
	}
	return out, api.OK
}

func (b book) paid(x api.Tx, box api.Digest) (out book, code, e api.Errno) {
	from := keyOf(x.Pub)
	sender := b[from]
	switch {
	case !isSigned(x):
		return nil, api.OK, api.ErrSign
	case x.Nonce != sender.Nonce || x.Nonce == greatest:
		return nil, api.OK, api.ErrArg
	}
	alone := b.with(from, account(sender.Nonce+1, sender.Balance))
	cost := sum(x.Amount, x.Fee)
	if !cost.IsUint64() || cost.Uint64() > sender.Balance {
		return alone, api.ErrPoor, api.OK
	}
	less := alone.with(from, account(sender.Nonce+1, sender.Balance-cost.Uint64()))
	out, code = less.given(alone, []api.Digest{x.To, box}, x.Amount, x.Fee)
	return out, code, api.OK
}

func sum(a, b uint64) *big.Int {
	return new(big.Int).Add(new(big.Int).SetUint64(a), new(big.Int).SetUint64(b))
}

// What is to be told of a block: the accounts behind it, its header and its receipts.
type told struct {
	b book
	h api.Header
	l []api.Receipt
}

// By the chapter's words, and not by block, of a state and a parent that may be, and of no
// more parts than may be.
func (b book) applied(parent api.Header, body api.Body, box api.Digest) (told, api.Errno) {
	out := told{b: b}
	for _, d := range body.Deposits {
		behind, code := out.b.given(out.b, []api.Digest{d.To}, d.Amount)
		out.b = behind
		out.l = append(out.l, api.Receipt{Kind: 1, Id: depositId(d), Code: code})
	}
	for _, x := range body.Txs {
		behind, code, e := out.b.paid(x, box)
		if e != api.OK {
			return told{}, e
		}
		out.b = behind
		out.l = append(out.l, api.Receipt{Kind: 2, Id: txId(x), Code: code})
	}
	out.h = api.Header{Height: parent.Height + 1, Parent: hashOf(parent), State: out.b.root(), Rows: rowsRoot(out.l), Many: len(out.l)}
	return out, api.OK
}

// So many accounts of nobody who is named.
func crowd(n int) book {
	b := book{}
	for i := range n {
		k := hashed(i)
		b[k] = account(binary.BigEndian.Uint64(k[3:])>>(i%64), binary.BigEndian.Uint64(k[19:])>>32|1)
	}
	return b
}

func joined(books ...book) book {
	out := book{}
	for _, b := range books {
		maps.Copy(out, b)
	}
	return out
}

// Keys of which each parts from k at another bit: the deepest state.
func comb(k api.Digest) book {
	b := book{}
	for i := range api.Depth {
		b[turned(k, i)] = account(uint64(i), 1)
	}
	return b
}

// Behind other nodes, that Root does not lead to.
func stateBehind(ahead []api.Node, b book) api.Tree {
	t := api.Tree{Nodes: slices.Clone(ahead)}
	for _, k := range b.keys() {
		out, e := tree.Put(t, k, bytesOf(b[k]))
		if e != api.OK {
			panic(fmt.Sprint("a book is laid: error ", e))
		}
		t = out
	}
	return t
}

func stateOf(b book) api.Tree {
	return stateBehind(nil, b)
}

func leafOf(k api.Digest, v []byte) api.Node {
	return api.Node{Leaf: true, Key: k, Value: slices.Clone(v)}
}

// Leaves elsewhere, whose value is no account.
func leaves(n int) []api.Node {
	return slices.Repeat([]api.Node{leafOf(filled(77), []byte("elsewhere"))}, n)
}

// A state of just so many nodes.
func sized(n int, b book) api.Tree {
	t := stateOf(b)
	t.Nodes = append(t.Nodes, leaves(n-len(t.Nodes))...)
	return t
}

func alikeNodes(a, b api.Node) bool {
	return a.Leaf == b.Leaf && a.Key == b.Key && bytes.Equal(a.Value, b.Value) && a.Left == b.Left && a.Right == b.Right
}

func brief(t api.Tree) string {
	var b strings.Builder
	fmt.Fprintf(&b, "root %d of %d nodes", t.Root, len(t.Nodes))
	for _, at := range t.Nodes[:min(len(t.Nodes), 4)] {
		fmt.Fprintf(&b, "; %t %x %x %d %d", at.Leaf, at.Key, at.Value, at.Left, at.Right)
	}
	return b.String()
}

func wantError(t *testing.T, what string, want api.Errno, old api.Tree, parent api.Header, b api.Body, box api.Digest) {
	t.Helper()
	out, h, l, e := block.Apply(old, parent, b, box)
	if e != want || len(out.Nodes) != 0 || out.Root != 0 || h != (api.Header{}) || len(l) != 0 {
		t.Errorf("%s: error %d, %s, header %v, receipts %v, want error %d and nothing", what, e, brief(out), h, l, want)
	}
}

// A state, of old's nodes and at most so many more, that has what the book tells.
func wantState(t *testing.T, what string, old, got api.Tree, most int, want book) {
	t.Helper()
	more := len(got.Nodes) - len(old.Nodes)
	if more < 0 || more > most || !slices.EqualFunc(got.Nodes[:len(old.Nodes)], old.Nodes, alikeNodes) {
		t.Errorf("%s: %d more nodes, or others than there were", what, more)
		return
	}
	l, e := tree.Pairs(got)
	if e != api.OK {
		t.Errorf("%s: what is answered may not be: %s", what, brief(got))
		return
	}
	right := len(l) == len(want)
	for _, p := range l {
		a, has := want[p.Key]
		right = right && has && bytes.Equal(p.Value, bytesOf(a))
	}
	if !right {
		t.Errorf("%s: %v, want %v", what, l, want)
	}
}

// wantApplied applies, and holds all that is told against the book of the state, also when
// that is an error.
func wantApplied(t *testing.T, what string, old api.Tree, b book, parent api.Header, body api.Body, box api.Digest) (api.Tree, told, api.Errno) {
	t.Helper()
	want, wrong := b.applied(parent, body, box)
	if wrong != api.OK {
		wantError(t, what, wrong, old, parent, body, box)
		return api.Tree{}, told{}, wrong
	}
	out, h, l, e := block.Apply(old, parent, body, box)
	if e != api.OK {
		t.Errorf("%s: error %d", what, e)
		return out, want, e
	}
	wantState(t, what, old, out, giftRoom*len(body.Deposits)+payRoom*len(body.Txs), want.b)
	if h != want.h {
		t.Errorf("%s: header %v, want %v", what, h, want.h)
	}
	if !slices.Equal(l, want.l) {
		t.Errorf("%s: receipts %v, want %v", what, l, want.l)
	}
	return out, want, api.OK
}

func codes(l []api.Receipt) []api.Errno {
	var all []api.Errno
	for _, r := range l {
		all = append(all, r.Code)
	}
	return all
}

// The chapter's examples.

func TestExamples(t *testing.T) {
	out, h, l, e := block.Apply(api.Tree{}, api.Header{}, api.Body{}, api.Digest{})
	zero, _ := header.Hash(api.Header{})
	want := api.Header{Height: 1, Parent: zero, State: tag.None(), Rows: tag.None()}
	if e != api.OK || h != want || len(l) != 0 || len(out.Nodes) != 0 || out.Root != 0 {
		t.Errorf("an empty body: error %d, header %v, receipts %v, %s", e, h, l, brief(out))
	}
	wantError(t, "17 deposits", api.ErrMany, api.Tree{}, api.Header{}, api.Body{Deposits: make([]api.Deposit, 17)}, api.Digest{})
	wantError(t, "not signed", api.ErrSign, api.Tree{}, api.Header{}, api.Body{Txs: make([]api.Tx, 1)}, api.Digest{})
	x := paying(0, bob, 0, 7, 2)
	for _, b := range []book{{}, {ann: account(0, 10)}, {ann: account(0, 100)}} {
		wantError(t, "the same twice", api.ErrArg, stateOf(b), api.Header{}, body(nil, x, x), box)
	}
}

// P16.1: the state behind all, and the receipts.

// Parts of each code, in one body: what is told of each is told in its place.
func TestReceiptsOfEachCode(t *testing.T) {
	b := book{ann: account(4, 10), bob: account(0, greatest-5), cid: account(7, 3)}
	_, want, _ := wantApplied(t, "each code", stateOf(b), b, parentAt(1), body(
		[]api.Deposit{gift(9, ann, 5), gift(3, bob, 6), gift(4, bob, 5), gift(4, bob, 0), gift(5, bob, 1), gift(6, hashed(5), 0)},
		paying(0, cid, 4, 1, 1), paying(2, ann, 7, 5, 0), paying(0, bob, 5, 1, 0), paying(2, ann, 8, 4, 0), paying(0, ann, 6, 0, 0),
	), box)
	over, poor := api.ErrOver, api.ErrPoor
	if got := []api.Errno{0, over, 0, 0, over, 0, 0, poor, over, 0, 0}; !slices.Equal(codes(want.l), got) {
		t.Fatalf("the model tells %v, want %v", codes(want.l), got)
	}
	left := book{ann: account(7, 17), bob: account(0, greatest), cid: account(9, 0), box: account(0, 1)}
	if !maps.Equal(want.b, left) {
		t.Errorf("the model leaves %v", want.b)
	}
}

// What a transaction pays is given ahead of it; what comes behind it is not there yet.
func TestPartsAreAppliedInOrder(t *testing.T) {
	d := []api.Deposit{gift(1, ann, 5)}
	for _, c := range []struct {
		what string
		b    book
		body api.Body
		want []api.Errno
	}{
		{"a deposit ahead", book{}, body(d, paying(0, bob, 0, 4, 1)), []api.Errno{0, 0}},
		{"just too poor", book{}, body(d, paying(0, bob, 0, 5, 1)), []api.Errno{0, api.ErrPoor}},
		{"another one is given", book{}, body([]api.Deposit{gift(1, bob, 5)}, paying(0, bob, 0, 4, 1)), []api.Errno{0, api.ErrPoor}},
		{"paid on", book{ann: account(0, 9)}, body(nil, paying(0, bob, 0, 9, 0), paying(1, cid, 0, 9, 0)), []api.Errno{0, 0}},
		{"paid on, turned", book{ann: account(0, 9)}, body(nil, paying(1, cid, 0, 9, 0), paying(0, bob, 0, 9, 0)), []api.Errno{api.ErrPoor, 0}},
		{"over, the first one", book{}, body([]api.Deposit{gift(1, ann, greatest), gift(2, ann, 1)}), []api.Errno{0, api.ErrOver}},
		{"over, the other one", book{}, body([]api.Deposit{gift(2, ann, 1), gift(1, ann, greatest)}), []api.Errno{0, api.ErrOver}},
		{"the nonces in order", book{}, body(nil, payments(16, 0, bob, 0, 0, 0)...), make([]api.Errno, 16)},
		{"a poor one counts", book{ann: account(3, 5)}, body(nil, paying(0, bob, 3, 6, 0), paying(0, bob, 4, 5, 0)), []api.Errno{api.ErrPoor, 0}},
		{"the same deposit twice", book{}, body(slices.Repeat(d, 2)), []api.Errno{0, 0}},
		{"the fee is paid on", book{ann: account(0, 9)}, body(nil, paying(0, bob, 0, 1, 8), paying(3, bob, 0, 8, 0)), []api.Errno{0, 0}},
		{"a deposit makes it over", book{bob: account(0, greatest)}, body(d, paying(0, bob, 0, 1, 0)), []api.Errno{0, api.ErrOver}},
	} {
		_, want, _ := wantApplied(t, c.what, stateOf(c.b), c.b, parentAt(8), c.body, box)
		if !slices.Equal(codes(want.l), c.want) {
			t.Errorf("%s: the model tells %v, want %v", c.what, codes(want.l), c.want)
		}
	}
}

func TestEachCountOfParts(t *testing.T) {
	b := joined(crowd(3), book{ann: account(2, 40), bob: account(1, greatest-3)})
	old := stateOf(b)
	for deposits := range api.MaxBlock + 1 {
		for txs := range api.MaxBlock + 1 {
			what := fmt.Sprint(deposits, " deposits, ", txs, " transactions")
			wantApplied(t, what, old, b, parentAt(3), body(gifts(deposits, bob, 1), payments(txs, 0, bob, 2, 2, 2)...), box)
		}
	}
}

// Who gets the fees is the box alone, be it anybody's.
func TestTheBoxIsAnybodys(t *testing.T) {
	b := book{ann: account(0, 10), bob: account(0, 1)}
	for _, box := range []api.Digest{{}, filled(255), ann, bob, cid, pub(0), hashed(5)} {
		_, want, _ := wantApplied(t, fmt.Sprintf("box %x", box), stateOf(b), b, parentAt(3), body(gifts(2, box, 3), payments(3, 0, bob, 0, 1, 2)...), box)
		if !slices.Equal(codes(want.l), make([]api.Errno, 5)) {
			t.Errorf("box %x: codes %v", box, codes(want.l))
		}
	}
}

// A deposit's Number is told by its id alone.
func TestIdsTellWhatIsApplied(t *testing.T) {
	met := map[api.Digest]bool{}
	for _, d := range []api.Deposit{{}, gift(1, ann, 5), gift(2, ann, 5), gift(1, bob, 5), gift(1, ann, 6), gift(greatest, filled(255), 0)} {
		_, want, _ := wantApplied(t, fmt.Sprint(d), api.Tree{}, book{}, parentAt(3), body([]api.Deposit{d}), box)
		met[want.l[0].Id] = true
	}
	for _, x := range []api.Tx{paying(0, bob, 0, 0, 0), paying(0, cid, 0, 0, 0), paying(0, bob, 0, 1, 0), paying(0, bob, 0, 0, 1), paying(1, bob, 0, 0, 0)} {
		_, want, _ := wantApplied(t, fmt.Sprint(x), api.Tree{}, book{}, parentAt(3), body(nil, x), box)
		met[want.l[0].Id] = true
	}
	if len(met) != 11 {
		t.Errorf("%d ids of 11 parts", len(met))
	}
}

// What Rows digests is the receipts that are told: each fits at its place.
func TestReceiptsFitTheHeader(t *testing.T) {
	old := stateOf(book{ann: account(0, 20)})
	_, h, l, e := block.Apply(old, parentAt(0), body(gifts(5, bob, 1), payments(6, 0, bob, 0, 3, 1)...), box)
	if e != api.OK || len(l) != 11 {
		t.Fatalf("error %d, %d receipts", e, len(l))
	}
	var list [][]byte
	for _, r := range l {
		list = append(list, slices.Concat([]byte{r.Kind}, r.Id[:], []byte{byte(r.Code >> 8), byte(r.Code)}))
	}
	for i, row := range list {
		sides, _ := rows.Sides(list, i)
		if !rows.Fits(h.Rows, h.Many, i, row, sides) {
			t.Errorf("receipt %d does not fit", i)
		}
	}
}

// P16.1: the header.

func parents() []api.Header {
	l := []api.Header{{}, {Height: api.MaxHeight - 1}, {Many: api.MaxRows}, parentAt(api.MaxHeight - 1)}
	for _, height := range []int{0, 1, 2, 255, 256, 1 << 20, 1<<29 + 1, api.MaxHeight - 2} {
		l = append(l, parentAt(height))
	}
	for i := range 256 {
		h := parentAt(3)
		h.Many = i + 1
		x, y, z := h, h, h
		x.Parent, y.State, z.Rows = turned(h.Parent, i), turned(h.State, i), turned(h.Rows, i)
		l = append(l, h, x, y, z)
	}
	return l
}

// The parent's own State and Rows are nobody's here, but in its hash.
func TestHeadersFollowTheirParents(t *testing.T) {
	b := book{ann: account(0, 10)}
	old := stateOf(b)
	for _, parent := range parents() {
		for _, some := range []api.Body{{}, body(gifts(1, bob, 5), paying(0, bob, 0, 4, 1))} {
			_, want, e := wantApplied(t, fmt.Sprint("behind ", parent), old, b, parent, some, box)
			if e != api.OK || !header.Follows(want.h, parent) {
				t.Fatalf("%v does not follow %v", want.h, parent)
			}
		}
	}
}

// Nothing of what is applied turns what is behind nothing: State is told anyway.
func TestEmptyBodies(t *testing.T) {
	for _, b := range []book{{}, crowd(1), crowd(2), crowd(40), comb(ann)} {
		old := stateBehind(leaves(3), b)
		for _, empty := range []api.Body{{}, {Deposits: []api.Deposit{}, Txs: []api.Tx{}}} {
			out, want, _ := wantApplied(t, "nothing", old, b, parentAt(7), empty, box)
			if !tree.Same(out, old) {
				t.Errorf("another tree: %s", brief(out))
			}
			if want.h.Many != 0 || want.h.Rows != tag.None() {
				t.Errorf("the model tells %v", want.h)
			}
		}
	}
}

// P16.1: ErrBad.

// Trees that may not be, though each value is an account's; and trees that may be, with
// a value that is none.
func wrongStates() map[string]api.Tree {
	v := bytesOf(account(4, 258))
	a, b := leafOf(api.Digest{3}, v), leafOf(api.Digest{200}, v)
	fork := api.Node{Left: 1, Right: 2}
	all := map[string]api.Tree{
		"a fork of two 0s":      {Nodes: []api.Node{{}}, Root: 1},
		"a fork of one leaf":    {Nodes: []api.Node{a, {Left: 1}}, Root: 2},
		"a fork to itself":      {Nodes: []api.Node{a, {Left: 1, Right: 2}}, Root: 2},
		"both turned":           {Nodes: []api.Node{b, a, fork}, Root: 3},
		"a leaf's left":         {Nodes: []api.Node{a, {Leaf: true, Key: b.Key, Value: v, Left: 1}}, Root: 2},
		"a long leaf elsewhere": {Nodes: []api.Node{a, leafOf(b.Key, counted(65))}, Root: 1},
		"root behind the last":  {Nodes: []api.Node{a, b, fork}, Root: 4},
		"root less than 0":      {Nodes: []api.Node{a, b, fork}, Root: -1},
		"root the greatest":     {Nodes: []api.Node{a, b, fork}, Root: math.MaxInt},
		"root of nothing":       {Root: 1},
		"a node too many":       {Nodes: slices.Repeat([]api.Node{a}, api.MaxNodes+1), Root: 1},
		"no node is led to":     {Nodes: slices.Repeat([]api.Node{a}, api.MaxNodes+1)},
	}
	for _, value := range [][]byte{make([]byte, 16), counted(1), counted(15), counted(17), counted(64)} {
		x, e := tree.Put(stateOf(joined(crowd(5), book{ann: account(0, 10)})), hashed(9), value)
		if e != api.OK {
			panic("a value is put")
		}
		all[fmt.Sprint(len(value), " bytes")] = x
	}
	return all
}

// Bodies of each kind: such as may be applied to a state of ann, and such as may not.
func bodies() map[string]api.Body {
	return map[string]api.Body{
		"nothing":        {},
		"a deposit":      body(gifts(1, bob, 5)),
		"a payment":      body(nil, paying(0, bob, 0, 4, 1)),
		"both":           body(gifts(16, bob, 5), payments(16, 0, bob, 0, 0, 0)...),
		"not signed":     body(nil, api.Tx{}),
		"another nonce":  body(nil, paying(0, bob, 1, 4, 1)),
		"too many":       body(gifts(17, bob, 5)),
		"too many to be": body(gifts(17, bob, 5), make([]api.Tx, 17)...),
	}
}

func TestWhatIsNoStateIsRefused(t *testing.T) {
	for what, old := range wrongStates() {
		for kind, b := range bodies() {
			wantError(t, what+", "+kind, api.ErrBad, old, parentAt(3), b, box)
			wantError(t, what+", "+kind+", no parent", api.ErrBad, old, parentAt(-1), b, box)
		}
	}
}

func TestParentsThatMayNotBe(t *testing.T) {
	with := func(many int) api.Header {
		h := parentAt(3)
		h.Many = many
		return h
	}
	wrong := []api.Header{{Height: -1}, {Height: api.MaxHeight}, {Many: -1}, {Many: api.MaxRows + 1}, with(-1), with(257), with(1 << 32), with(math.MinInt), with(math.MaxInt)}
	for _, height := range []int{-1, -2, math.MinInt, api.MaxHeight, api.MaxHeight + 1, 1 << 32, 1<<32 + 1, math.MaxInt} {
		wrong = append(wrong, parentAt(height))
	}
	for _, b := range []book{{}, {ann: account(0, 10)}} {
		for _, parent := range wrong {
			for kind, some := range bodies() {
				wantError(t, fmt.Sprint("behind ", parent, ": ", kind), api.ErrBad, stateOf(b), parent, some, box)
			}
		}
	}
}

// At the last height but one there is one block more, and none behind that.
func TestTheLastHeight(t *testing.T) {
	b := book{ann: account(0, 10)}
	parent := parentAt(api.MaxHeight - 2)
	old := stateOf(b)
	for height := api.MaxHeight - 1; height <= api.MaxHeight; height++ {
		out, h, _, e := block.Apply(old, parent, body(gifts(1, ann, 1)), box)
		if e != api.OK || h.Height != height || header.Check(h) != api.OK {
			t.Fatalf("height %d: error %d, %v", height, e, h)
		}
		old, parent = out, h
	}
	wantError(t, "behind the last one", api.ErrBad, old, parent, api.Body{}, box)
}

// Another version's values count for nothing.
func TestOtherVersionsAreNotAsked(t *testing.T) {
	b := book{ann: account(0, 10)}
	old := stateBehind([]api.Node{leafOf(ann, make([]byte, 16)), leafOf(ann, bytesOf(account(9, 99)))}, b)
	wantApplied(t, "behind others", old, b, parentAt(3), body(gifts(1, bob, 5), paying(0, bob, 0, 4, 1)), box)
	old.Root = 1
	wantError(t, "at another root", api.ErrBad, old, parentAt(3), api.Body{}, box)
}

// P16.1: ErrMany.

func TestTooManyParts(t *testing.T) {
	b := book{ann: account(0, 10)}
	old := stateOf(b)
	for _, c := range []struct{ deposits, txs int }{{17, 0}, {0, 17}, {17, 17}, {17, 1}, {1, 17}, {16, 17}, {17, 16}, {18, 0}, {0, 32}, {1000, 3}, {3, 1000}, {1 << 16, 0}} {
		what := fmt.Sprint(c.deposits, " deposits, ", c.txs, " transactions")
		some := body(gifts(c.deposits, bob, 1), payments(c.txs, 0, bob, 0, 0, 0)...)
		wantError(t, what, api.ErrMany, old, parentAt(3), some, box)
		// What they are counts for nothing.
		wantError(t, what+", zero", api.ErrMany, old, parentAt(3), api.Body{Deposits: make([]api.Deposit, c.deposits), Txs: make([]api.Tx, c.txs)}, box)
	}
	wantApplied(t, "just as many as may be", old, b, parentAt(3), body(gifts(16, bob, 1), payments(16, 0, bob, 0, 0, 0)...), box)
}

// P16.1: ErrFull.

func most(deposits, txs int) int {
	return api.MaxNodes - spareRoom - giftRoom*deposits - payRoom*txs
}

// What becomes of the parts counts for nothing: here none puts a node, or few.
func TestFullStatesAreRefused(t *testing.T) {
	b := book{ann: account(0, 10), bob: account(0, greatest)}
	counts := [][2]int{{0, 0}, {1, 0}, {0, 1}, {3, 5}, {16, 0}, {16, 16}}
	for _, c := range counts {
		some := body(gifts(c[0], bob, 1), payments(c[1], 0, bob, 0, 11, 0)...)
		what := fmt.Sprint(c[0], " deposits, ", c[1], " transactions")
		for _, n := range []int{most(c[0], c[1]) + 1, most(c[0], c[1]) + giftRoom, api.MaxNodes} {
			old := sized(n, b)
			wantError(t, fmt.Sprint(what, " in ", n, " nodes"), api.ErrFull, old, parentAt(3), some, box)
			if c[1] > 0 {
				wantError(t, what+", not signed", api.ErrFull, old, parentAt(3), body(some.Deposits, make([]api.Tx, c[1])...), box)
			}
		}
		wantApplied(t, what+" in just as many", sized(most(c[0], c[1]), b), b, parentAt(3), some, box)
	}
}

// A state that is full for one body has room for one of fewer parts.
func TestFewerPartsGoInto(t *testing.T) {
	b := book{ann: account(0, 10)}
	old := sized(most(1, 1), b)
	wantApplied(t, "one of each", old, b, parentAt(3), body(gifts(1, bob, 1), paying(0, bob, 0, 1, 1)), box)
	wantApplied(t, "five deposits", old, b, parentAt(3), body(gifts(5, bob, 1)), box)
	wantError(t, "two deposits", api.ErrFull, old, parentAt(3), body(gifts(2, bob, 1), paying(0, bob, 0, 1, 1)), box)
	wantError(t, "six deposits", api.ErrFull, old, parentAt(3), body(gifts(6, bob, 1)), box)
	wantError(t, "two transactions", api.ErrFull, old, parentAt(3), body(nil, payments(2, 0, bob, 0, 1, 1)...), box)
}

// Each step goes down to the last bit, and so puts as many nodes as it can: whatever is
// not full is not found full on the way.
func TestTheDeepestStates(t *testing.T) {
	b := joined(comb(ann), book{ann: account(0, 10)})
	to, box := turned(turned(ann, 255), 254), turned(turned(ann, 255), 253)
	deposits := gifts(16, turned(turned(ann, 254), 252), 5)
	var txs []api.Tx
	for i := range uint64(16) {
		txs = append(txs, paying(0, to, i, i%2, i%3))
	}
	wantApplied(t, "some", sized(most(4, 4), b), b, parentAt(3), body(deposits[:4], txs[:4]...), box)
	wantApplied(t, "as many as may be", stateOf(b), b, parentAt(3), body(deposits, txs...), box)
}

// P16.1: ErrSign and ErrArg.

// The first one that is refused tells the error, at each place; what is behind it is not
// asked.
func TestTheFirstThatIsRefused(t *testing.T) {
	b := book{ann: account(4, 10), bob: account(0, 10)}
	old := stateOf(b)
	unsigned, early, late := api.Tx{}, paying(1, ann, 1, 1, 1), paying(1, ann, 7, 1, 1)
	unsignedLate := late
	unsignedLate.Sign = turned(late.Sign, 255)
	for _, c := range []struct {
		what string
		x    api.Tx
		want api.Errno
	}{{"zero", unsigned, api.ErrSign}, {"early", early, api.ErrArg}, {"late", late, api.ErrArg}, {"both", unsignedLate, api.ErrSign}} {
		for at := range api.MaxBlock {
			some := body(gifts(3, bob, 1), payments(api.MaxBlock, 0, bob, 4, 0, 0)...)
			some.Txs[at] = c.x
			wantError(t, fmt.Sprint(c.what, " at ", at), c.want, old, parentAt(3), some, box)
			for behind := at + 1; behind < api.MaxBlock; behind++ {
				for _, y := range []api.Tx{unsigned, early, late, unsignedLate} {
					some.Txs[behind] = y
					wantError(t, fmt.Sprint(c.what, " at ", at, ", and another behind"), c.want, old, parentAt(3), some, box)
				}
			}
		}
	}
}

// Whether it is refused is asked when its turn comes, and not ahead.
func TestRefusedWhenItsTurnComes(t *testing.T) {
	b := book{ann: account(4, 10), bob: account(greatest-2, 10)}
	old := stateOf(b)
	for _, c := range []struct {
		what string
		x    []api.Tx
		want api.Errno
	}{
		{"the nonce is there, then used", []api.Tx{paying(0, bob, 4, 1, 1), paying(0, cid, 4, 1, 1)}, api.ErrArg},
		{"used by a poor one", []api.Tx{paying(0, bob, 4, 11, 1), paying(0, cid, 4, 1, 1)}, api.ErrArg},
		{"the nonce comes to be there", []api.Tx{paying(0, bob, 4, 1, 1), paying(0, cid, 5, 1, 1)}, api.OK},
		{"the nonces turned round", []api.Tx{paying(0, bob, 5, 1, 1), paying(0, cid, 4, 1, 1)}, api.ErrArg},
		{"a nonce left out", []api.Tx{paying(0, bob, 4, 1, 1), paying(0, cid, 6, 1, 1)}, api.ErrArg},
		{"the last nonce but one", []api.Tx{paying(1, ann, greatest-2, 1, 1), paying(1, ann, greatest-1, 1, 1)}, api.OK},
		{"the last nonce", payments(3, 1, ann, greatest-2, 1, 1), api.ErrArg},
		{"two senders' own nonces", []api.Tx{paying(1, ann, greatest-2, 1, 1), paying(0, bob, 4, 1, 1), paying(1, ann, greatest-1, 1, 1)}, api.OK},
		{"another sender's nonce", []api.Tx{paying(0, bob, 4, 1, 1), paying(1, ann, 5, 1, 1)}, api.ErrArg},
	} {
		_, _, e := wantApplied(t, c.what, old, b, parentAt(3), body(gifts(1, cid, 3), c.x...), box)
		if e != c.want {
			t.Errorf("%s: error %d, want %d", c.what, e, c.want)
		}
	}
}

// Each bit of a transaction is signed.
func TestWhatIsNotSigned(t *testing.T) {
	old := stateOf(book{ann: account(4, 10)})
	right := paying(0, bob, 4, 7, 2)
	for i := range 256 {
		x, y, z := right, right, right
		x.Sign, y.Pub, z.To = turned(x.Sign, i), turned(y.Pub, i), turned(z.To, i)
		for _, wrong := range []api.Tx{x, y, z} {
			wantError(t, fmt.Sprint("bit ", i), api.ErrSign, old, parentAt(3), body(nil, wrong), box)
		}
	}
	for i := range 64 {
		x, y, z := right, right, right
		x.Nonce, y.Amount, z.Fee = x.Nonce^1<<i, y.Amount^1<<i, z.Fee^1<<i
		for _, wrong := range []api.Tx{x, y, z} {
			wantError(t, fmt.Sprint("bit ", i, " of a number"), api.ErrSign, old, parentAt(3), body(nil, wrong), box)
		}
	}
}

// P16.1: of several errors the one named first.

func TestTheErrorNamedFirst(t *testing.T) {
	for i := range 64 {
		isBad, noParent, isMany := i&1 > 0, i&2 > 0, i&4 > 0
		isFull, isUnsigned, isOther := i&8 > 0, i&16 > 0, i&32 > 0
		n := 1000
		if isFull {
			n = api.MaxNodes
		}
		old := sized(n, book{ann: account(4, 10)})
		if isBad {
			old.Nodes[n-1] = leafOf(hashed(0), make([]byte, 16))
			old.Root = n
		}
		parent := parentAt(3)
		if noParent {
			parent.Many = api.MaxRows + 1
		}
		count := 1
		if isMany {
			count = 17
		}
		x := paying(0, bob, 4, 7, 0)
		if isOther {
			x = paying(0, bob, 5, 7, 0)
		}
		if isUnsigned {
			x.Sign = turned(x.Sign, 9)
		}
		some := body(gifts(count, bob, 1), x)
		what := fmt.Sprint("no state: ", isBad, ", no parent: ", noParent, ", many: ", isMany, ", full: ", isFull, ", not signed: ", isUnsigned, ", another nonce: ", isOther)
		switch {
		case isBad || noParent:
			wantError(t, what, api.ErrBad, old, parent, some, box)
		case isMany:
			wantError(t, what, api.ErrMany, old, parent, some, box)
		case isFull:
			wantError(t, what, api.ErrFull, old, parent, some, box)
		case isUnsigned:
			wantError(t, what, api.ErrSign, old, parent, some, box)
		case isOther:
			wantError(t, what, api.ErrArg, old, parent, some, box)
		default:
			if _, _, _, e := block.Apply(old, parent, some, box); e != api.OK {
				t.Errorf("%s: error %d", what, e)
			}
		}
	}
}

// P16.2.

// What stands behind a list's end, or a value's, is its caller's: neither read nor changed.
func roomy(t api.Tree) api.Tree {
	out := make([]api.Node, 0, len(t.Nodes)+3)
	for _, at := range t.Nodes {
		v := append(make([]byte, 0, len(at.Value)+8), at.Value...)
		copy(v[len(v):cap(v)], "beyond!!")
		at.Value = v
		out = append(out, at)
	}
	for i := range cap(out) - len(out) {
		out[:cap(out)][len(out)+i] = leafOf(hashed(i), []byte("beyond"))
	}
	return api.Tree{Nodes: out, Root: t.Root}
}

func roomyBody(b api.Body) api.Body {
	d := append(make([]api.Deposit, 0, len(b.Deposits)+2), b.Deposits...)
	x := append(make([]api.Tx, 0, len(b.Txs)+2), b.Txs...)
	for i := range 2 {
		d[:cap(d)][len(d)+i] = gift(77, hashed(i), 7)
		x[:cap(x)][len(x)+i] = paying(7, hashed(i), 7, 7, 7)
	}
	return api.Body{Deposits: d, Txs: x}
}

func wholly(t api.Tree) string {
	b := fmt.Append(nil, t.Root, " ", len(t.Nodes))
	for _, at := range t.Nodes[:cap(t.Nodes)] {
		b = fmt.Appendf(b, "%t %x %d: %x %d %d\n", at.Leaf, at.Key, len(at.Value), at.Value[:cap(at.Value)], at.Left, at.Right)
	}
	return string(b)
}

func whollyBody(b api.Body) string {
	return fmt.Sprint(len(b.Deposits), b.Deposits[:cap(b.Deposits)], len(b.Txs), b.Txs[:cap(b.Txs)])
}

// Also what an append to it would write to.
func overwrite(t api.Tree) {
	nodes := t.Nodes[:cap(t.Nodes)]
	for i := range nodes {
		v := nodes[i].Value[:cap(nodes[i].Value)]
		for j := range v {
			v[j] ^= 0xff
		}
		nodes[i] = leafOf(hashed(99), []byte("overwritten"))
	}
}

func overwriteReceipts(l []api.Receipt) {
	for i := range l[:cap(l)] {
		l[:cap(l)][i] = api.Receipt{Kind: 77, Id: hashed(77), Code: 77}
	}
}

// What is applied to a state of ann, and what is refused.
func memoryBodies() map[string]api.Body {
	all := bodies()
	all["each code"] = body(
		[]api.Deposit{gift(9, ann, 5), gift(3, bob, greatest), gift(4, bob, 5), gift(6, hashed(5), 0)},
		paying(0, cid, 0, 1, 1), paying(0, cid, 1, 500, 0), paying(0, bob, 2, 1, 0), paying(0, ann, 3, 0, 0))
	all["refused at last"] = body(gifts(3, bob, 5), paying(0, bob, 0, 1, 1), api.Tx{})
	return all
}

func TestWhatIsHandedInStays(t *testing.T) {
	all := []api.Tree{{}, stateOf(book{ann: account(0, 10)}), stateOf(joined(comb(ann), book{ann: account(0, 10)})), stateBehind(leaves(5), joined(crowd(30), book{ann: account(0, 10)}))}
	for _, x := range wrongStates() {
		if len(x.Nodes) < 3000 {
			all = append(all, x)
		}
	}
	for _, x := range all {
		in := roomy(x)
		before := wholly(in)
		for what, b := range memoryBodies() {
			b = roomyBody(b)
			beforeBody := whollyBody(b)
			block.Apply(in, parentAt(3), b, box)
			if wholly(in) != before {
				t.Fatalf("%s: a tree of %d nodes is changed", what, len(x.Nodes))
			}
			if whollyBody(b) != beforeBody {
				t.Fatalf("%s: the body is changed", what)
			}
		}
	}
}

// What is answered is overwritten, and changes neither what was handed in nor what is
// answered behind it; nor is it changed with what was handed in.
func TestWhatIsAnsweredIsNewMemory(t *testing.T) {
	for what, b := range memoryBodies() {
		in, b := roomy(stateOf(joined(crowd(4), book{ann: account(0, 10)}))), roomyBody(b)
		before, beforeBody := wholly(in), whollyBody(b)
		first, h, firstList, e := block.Apply(in, parentAt(3), b, box)
		second, _, secondList, _ := block.Apply(in, parentAt(3), b, box)
		want, wantList := wholly(tree.Twin(second)), fmt.Sprint(secondList)
		overwrite(first)
		overwriteReceipts(firstList)
		if wholly(in) != before || whollyBody(b) != beforeBody {
			t.Errorf("%s: what is answered is not new memory", what)
		}
		if wholly(tree.Twin(second)) != want || fmt.Sprint(secondList) != wantList {
			t.Errorf("%s: what is answered twice shares memory", what)
		}
		third, again, thirdList, wrong := block.Apply(in, parentAt(3), b, box)
		if wholly(tree.Twin(third)) != want || fmt.Sprint(thirdList) != wantList || again != h || wrong != e {
			t.Errorf("%s: it is not answered again", what)
		}
		overwrite(in)
		for i := range b.Deposits {
			b.Deposits[i] = gift(77, hashed(77), 77)
		}
		clear(b.Txs)
		if wholly(tree.Twin(third)) != want || fmt.Sprint(thirdList) != wantList {
			t.Errorf("%s: what is answered is changed with what was handed in", what)
		}
	}
}

// No two values that are answered share memory.
func TestValuesThatAreAnsweredAreEachTheirOwn(t *testing.T) {
	for what, b := range memoryBodies() {
		out, _, _, _ := block.Apply(stateOf(joined(crowd(4), book{ann: account(0, 10)})), parentAt(3), b, box)
		for i, at := range out.Nodes[:min(len(out.Nodes), 100)] {
			if !at.Leaf {
				continue
			}
			before := strings.Split(wholly(tree.Twin(out)), "\n")
			at.Value[0] ^= 0xff
			changed := strings.Split(wholly(tree.Twin(out)), "\n")
			at.Value[0] ^= 0xff
			var others int
			for n, line := range before {
				if line != changed[n] {
					others++
				}
			}
			if others != 1 {
				t.Errorf("%s: node %d's value changes %d of them", what, i+1, others)
			}
		}
	}
}

// P16.2 and P16.3, by long walks.

// A walk is a state, the book that it is to have, and the header ahead, and how often each
// code was told of deposits, and of transactions, and each error.
type walk struct {
	state  api.Tree
	b      book
	parent api.Header
	seen   map[string]int
	random *rand.Rand
}

const people = 5

// Often few, so that they are met again, and often so great that something runs over.
func (w *walk) number() uint64 {
	return w.random.Uint64() >> []int{0, 0, 1, 2, 58, 60, 62, 64}[w.random.Intn(8)]
}

func (w *walk) deposits() []api.Deposit {
	var l []api.Deposit
	for range w.random.Intn(5) {
		l = append(l, gift(w.number(), who(w.random.Intn(people)), w.number()))
	}
	return l
}

// Each by its sender's nonce there, but for few: those are refused.
func (w *walk) txs() []api.Tx {
	var l []api.Tx
	used := map[int]uint64{}
	for range w.random.Intn(8) {
		i := w.random.Intn(people)
		x := api.Tx{Pub: pub(i), To: who(w.random.Intn(people)), Nonce: w.b[who(i)].Nonce + used[i], Amount: w.number(), Fee: w.number()}
		used[i]++
		if has := w.b[who(i)].Balance; has > 1 && w.random.Intn(2) == 0 {
			// Else few could be paid.
			x.Amount = w.random.Uint64() % has
			x.Fee = w.random.Uint64() % (has - x.Amount + 1)
		}
		if w.random.Intn(60) == 0 {
			x.Nonce++
		}
		x = tx.Sign(x)
		if w.random.Intn(60) == 0 {
			x.Sign = hashed(1)
		}
		l = append(l, x)
	}
	return l
}

func (w *walk) step(t *testing.T) {
	some, box := body(w.deposits(), w.txs()...), who(w.random.Intn(people))
	old, before := w.state, w.b.total()
	out, want, e := wantApplied(t, "on a walk", old, w.b, w.parent, some, box)
	if e != api.OK {
		w.seen[fmt.Sprint("error ", int(e))]++
		return
	}
	for i, r := range want.l {
		w.seen[fmt.Sprint("code ", int(r.Code), " of ", r.Kind)]++
		if i < len(some.Deposits) && r.Code == api.OK {
			before.Add(before, new(big.Int).SetUint64(some.Deposits[i].Amount))
		}
	}
	wantTotal(t, out, before)
	wantVersion(t, out, old)
	wantInTwo(t, w.state, w.parent, some, box, w.random.Intn(len(some.Txs)+1))
	w.state, w.b, w.parent = out, want.b, want.h
}

// The total is asked of acct, of the state that is answered.
func wantTotal(t *testing.T, x api.Tree, want *big.Int) {
	t.Helper()
	high, low, e := acct.Total(x)
	got := new(big.Int).SetUint64(high)
	got.Lsh(got, 64).Add(got, new(big.Int).SetUint64(low))
	if e != api.OK || got.Cmp(want) != 0 {
		t.Errorf("the total is %s, error %d, want %s", got, e, want)
	}
}

// Of what is behind, the version ahead is as it was.
func wantVersion(t *testing.T, behind, ahead api.Tree) {
	t.Helper()
	version, e := tree.At(behind, ahead.Root)
	if e != api.OK {
		t.Fatalf("the version ahead: error %d", e)
	}
	version.Nodes = version.Nodes[:len(ahead.Nodes)]
	if !tree.Same(version, ahead) {
		t.Error("the version ahead is another one")
	}
}

// wantInTwo holds a body against two, one behind the other: the second one has the
// transactions from that one on, and no deposits.
func wantInTwo(t *testing.T, old api.Tree, parent api.Header, whole api.Body, box api.Digest, cut int) {
	t.Helper()
	out, h, l, e := block.Apply(old, parent, whole, box)
	half, between, ahead, e1 := block.Apply(old, parent, body(whole.Deposits, whole.Txs[:cut]...), box)
	other, last, behind, e2 := block.Apply(half, between, body(nil, whole.Txs[cut:]...), box)
	if e != api.OK || e1 != api.OK || e2 != api.OK {
		t.Fatalf("cut at %d: errors %d, %d and %d", cut, e, e1, e2)
	}
	if last.State != h.State || !tree.Same(other, out) {
		t.Errorf("cut at %d: %s with sum %x, want %s with %x", cut, brief(other), last.State, brief(out), h.State)
	}
	if !slices.Equal(slices.Concat(ahead, behind), l) || between.Many+last.Many != h.Many {
		t.Errorf("cut at %d: receipts %v and %v, want %v", cut, ahead, behind, l)
	}
	if !header.Follows(between, parent) || !header.Follows(last, between) {
		t.Errorf("cut at %d: headers do not follow", cut)
	}
}

func TestWalks(t *testing.T) {
	seen := map[string]int{}
	for seed := range int64(10) {
		b := crowd(int(seed))
		w := &walk{state: stateOf(b), b: b, seen: seen, random: rand.New(rand.NewSource(seed))}
		for range 40 {
			w.step(t)
			if t.Failed() {
				t.Fatalf("in walk %d", seed)
			}
		}
		if w.parent.Height < 20 {
			t.Errorf("walk %d has only %d blocks", seed, w.parent.Height)
		}
	}
	for _, few := range []string{"code 0 of 1", "code 151 of 1", "code 0 of 2", "code 150 of 2", "code 151 of 2", "error 2", "error 110"} {
		if seen[few] < 5 {
			t.Errorf("%s is told too seldom: %v", few, seen)
		}
	}
}

// P16.3, at each place in which a body may be cut.
func TestTwoBodiesLeaveWhatOneOfBothLeaves(t *testing.T) {
	b := joined(crowd(3), book{ann: account(4, 50), bob: account(0, greatest-20)})
	var x []api.Tx
	for i := range uint64(8) {
		x = append(x, paying(0, bob, 4+i, 9, i%3), paying(1, ann, i, i, 1))
	}
	for _, d := range [][]api.Deposit{nil, gifts(1, bob, 5), gifts(16, bob, 5)} {
		for cut := range len(x) + 1 {
			wantInTwo(t, stateOf(b), parentAt(3), body(d, x...), box, cut)
		}
	}
}

// With deposits it is another one: they are given ahead of all that is paid.
func TestDepositsOfTheSecondBody(t *testing.T) {
	x, d := paying(0, bob, 0, 4, 1), gifts(1, ann, 5)
	one, _, l, e := block.Apply(api.Tree{}, parentAt(3), body(d, x), box)
	if e != api.OK || l[1].Code != api.OK {
		t.Fatalf("one body: error %d, receipts %v", e, l)
	}
	half, h, l, e := block.Apply(api.Tree{}, parentAt(3), body(nil, x), box)
	if e != api.OK || l[0].Code != api.ErrPoor {
		t.Fatalf("the first body: error %d, receipts %v", e, l)
	}
	two, _, _, e := block.Apply(half, h, body(d), box)
	a, _ := acct.Get(two, ann)
	c, _ := acct.Get(one, ann)
	if e != api.OK || a != account(1, 5) || c != account(1, 0) {
		t.Errorf("the second body: error %d, %v behind two, %v behind one", e, a, c)
	}
}

// P16.3: the total becomes more by the deposits whose code is OK, and by nothing else.
func TestTheTotal(t *testing.T) {
	b := book{ann: account(0, greatest), bob: account(0, greatest-4), cid: account(0, 10)}
	for _, c := range []struct {
		what string
		body api.Body
		gain uint64
	}{
		{"nothing", api.Body{}, 0},
		{"deposits", body(gifts(3, cid, 5)), 15},
		{"deposits that are over", body(gifts(3, ann, 5)), 0},
		{"one that is not over", body(gifts(3, bob, 3)), 3},
		{"deposits of nothing", body(gifts(3, ann, 0)), 0},
		{"payments", body(nil, payments(3, 2, hashed(5), 0, 2, 1)...), 0},
		{"payments that are over", body(nil, payments(3, 2, ann, 0, 2, 1)...), 0},
		{"payments that are poor", body(nil, payments(3, 2, bob, 0, greatest, 1)...), 0},
		{"a great one", body([]api.Deposit{gift(1, hashed(5), greatest)}, paying(0, cid, 0, 5, 6)), greatest},
		{"both, one over", body([]api.Deposit{gift(1, bob, 5), gift(2, bob, 4)}, paying(2, bob, 0, 5, 5)), 4},
	} {
		out, _, _, e := block.Apply(stateOf(b), parentAt(3), c.body, box)
		if e != api.OK {
			t.Errorf("%s: error %d", c.what, e)
			continue
		}
		wantTotal(t, out, new(big.Int).Add(b.total(), new(big.Int).SetUint64(c.gain)))
	}
}

// P1: whatever it is handed, each call ends; what is refused, and what is not, is held
// against acct, header and the book.

func randomNode(random *rand.Rand, n int) api.Node {
	at := api.Node{Left: random.Intn(n + 1), Right: random.Intn(n + 1)}
	if random.Intn(3) > 0 {
		at = leafOf([]api.Digest{ann, bob, box, {}}[random.Intn(4)], bytesOf(account(uint64(random.Intn(3)), uint64(random.Intn(2)))))
	}
	if random.Intn(40) == 0 {
		at.Value = counted(random.Intn(70))
	}
	if random.Intn(60) == 0 {
		at.Left = random.Intn(5) - 2
	}
	return at
}

func bookOf(t api.Tree) book {
	b := book{}
	l, _ := tree.Pairs(t)
	for _, p := range l {
		a, _ := acct.Read(p.Value)
		b[p.Key] = a
	}
	return b
}

func TestWhateverIsHandedIn(t *testing.T) {
	random := rand.New(rand.NewSource(16))
	ends := map[api.Errno]int{}
	for range 40000 {
		var old api.Tree
		for n := range random.Intn(6) {
			old.Nodes = append(old.Nodes, randomNode(random, n))
		}
		old.Root = random.Intn(len(old.Nodes)+3) - 1
		parent := parentAt([]int{-1, 0, 1, 5, api.MaxHeight - 1, api.MaxHeight}[random.Intn(6)])
		parent.Many = []int{-1, 0, 5, 256, 257}[random.Intn(5)]
		some := body(gifts(random.Intn(3), bob, random.Uint64()>>random.Intn(65)), payments(random.Intn(3), 0, bob, uint64(random.Intn(3)), uint64(random.Intn(2)), 0)...)
		if random.Intn(10) == 0 {
			some.Deposits = gifts(16+random.Intn(3), bob, 1)
		}
		if random.Intn(10) == 0 {
			some.Txs = make([]api.Tx, random.Intn(20))
		}
		switch {
		case acct.Check(old) != api.OK || header.Check(parent) != api.OK || parent.Height == api.MaxHeight:
			wantError(t, brief(old), api.ErrBad, old, parent, some, box)
			ends[api.ErrBad]++
		case len(some.Deposits) > 16 || len(some.Txs) > 16:
			wantError(t, brief(old), api.ErrMany, old, parent, some, box)
			ends[api.ErrMany]++
		default:
			_, _, e := wantApplied(t, brief(old), old, bookOf(old), parent, some, box)
			ends[e]++
		}
		if t.Failed() {
			t.Fatalf("behind %v: %v", parent, some)
		}
	}
	for _, e := range []api.Errno{api.OK, api.ErrBad, api.ErrMany, api.ErrSign, api.ErrArg} {
		if ends[e] < 40 {
			t.Errorf("error %d is told only %d times", e, ends[e])
		}
	}
}
