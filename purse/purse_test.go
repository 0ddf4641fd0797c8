package purse_test

import (
	"bytes"
	"crypto/sha256"
	"encoding/binary"
	"fmt"
	"maps"
	"math"
	"math/big"
	"math/rand"
	"slices"
	"strings"
	"testing"

	"beadroll/acct"
	"beadroll/api"
	"beadroll/purse"
	"beadroll/tree"
	"beadroll/tx"
)

// Of so many nodes fewer than may be there is still room.
const room = 1200

// At most so many nodes are put by a gift; four times as many by a payment.
const giftRoom = 300

const greatest = math.MaxUint64

func hashed(i int) api.Digest {
	return sha256.Sum256([]byte(fmt.Sprint("purse ", i)))
}

func filled(b byte) api.Digest {
	return api.Digest(bytes.Repeat([]byte{b}, 32))
}

func turned(k api.Digest, i int) api.Digest {
	k[i/8] ^= 128 >> (i % 8)
	return k
}

// No byte is like the one beside it, so that one that is left out or turned round shows.
func counted(n int) []byte {
	b := make([]byte, n)
	for i := range b {
		b[i] = byte(i*7 + 3)
	}
	return b
}

func account(nonce, balance uint64) api.Account {
	return api.Account{Nonce: nonce, Balance: balance}
}

func bytesOf(a api.Account) []byte {
	return binary.BigEndian.AppendUint64(binary.BigEndian.AppendUint64(nil, a.Nonce), a.Balance)
}

// The public digest of the person i, and the key of its account.
func pub(i int) api.Digest {
	return hashed(1000 + i)
}

func who(i int) api.Digest {
	return acct.Key(pub(i))
}

// The chapter's roles: who pays, who is paid, and who gets the fees.
var (
	payer    = who(0)
	receiver = who(1)
	box      = who(2)
)

// A transaction of the payer's, signed.
func paying(to api.Digest, nonce, amount, fee uint64) api.Tx {
	return tx.Sign(api.Tx{Pub: pub(0), To: to, Nonce: nonce, Amount: amount, Fee: fee})
}

func gift(to api.Digest, amount uint64) api.Deposit {
	return api.Deposit{Number: 7, To: to, Amount: amount}
}

// A book tells the accounts that a state is to have, and none that is zero.
type book map[api.Digest]api.Account

func (b book) with(k api.Digest, a api.Account) book {
	out := maps.Clone(b)
	if a == (api.Account{}) {
		delete(out, k)
	} else {
		out[k] = a
	}
	return out
}

func (b book) keys() []api.Digest {
	return slices.SortedFunc(maps.Keys(b), func(k, l api.Digest) int { return bytes.Compare(k[:], l[:]) })
}

func (b book) total() *big.Int {
	sum := new(big.Int)
	for _, a := range b {
		sum.Add(sum, new(big.Int).SetUint64(a.Balance))
	}
	return sum
}

// By the chapter's words, in numbers that have no end, and not by purse: all is worked
// out first, and asked then.
func (b book) paid(x api.Tx, from, box api.Digest) (book, api.Errno) {
	sender := b[from]
	alone := b.with(from, account(sender.Nonce+1, sender.Balance))
	cost := sum(x.Amount, x.Fee)
	if !cost.IsUint64() || cost.Uint64() > sender.Balance {
		return alone, api.ErrPoor
	}
	less := alone.with(from, account(sender.Nonce+1, sender.Balance-cost.Uint64()))
	return less.given(alone, []api.Digest{x.To, box}, []uint64{x.Amount, x.Fee})
}

// The book with the amounts given; instead, if one would run over.
func (b book) given(instead book, to []api.Digest, amounts []uint64) (book, api.Errno) {
	out := b
	for i, k := range to {
		a := out[k]
		balance := sum(a.Balance, amounts[i])
		if !balance.IsUint64() {
			return instead, api.ErrOver
		}
		out = out.with(k, account(a.Nonce, balance.Uint64()))
	}
	return out, api.OK
}

func sum(a, b uint64) *big.Int {
	return new(big.Int).Add(new(big.Int).SetUint64(a), new(big.Int).SetUint64(b))
}

// So many accounts of nobody who is named.
func crowd(n int) book {
	b := book{}
	for i := range n {
		k := hashed(i)
		b[k] = account(binary.BigEndian.Uint64(k[3:])>>(i%64), binary.BigEndian.Uint64(k[19:])|1)
	}
	return b
}

func joined(books ...book) book {
	out := book{}
	for _, b := range books {
		maps.Copy(out, b)
	}
	return out
}

// Keys of which each parts from k at another bit: the deepest state.
func comb(k api.Digest) book {
	b := book{}
	for i := range api.Depth {
		b[turned(k, i)] = account(uint64(i), 1)
	}
	return b
}

// Behind other nodes, that Root does not lead to.
func stateBehind(ahead []api.Node, b book) api.Tree {
	t := api.Tree{Nodes: slices.Clone(ahead)}
	for _, k := range b.keys() {
		out, e := tree.Put(t, k, bytesOf(b[k]))
		if e != api.OK {
			panic(fmt.Sprint("a book is laid: error ", e))
		}
		t = out
	}
	return t
}

func stateOf(b book) api.Tree {
	return stateBehind(nil, b)
}

func leafOf(k api.Digest, v []byte) api.Node {
	return api.Node{Leaf: true, Key: k, Value: slices.Clone(v)}
}

// Leaves elsewhere, whose value is no account.
func leaves(n int) []api.Node {
	return slices.Repeat([]api.Node{leafOf(filled(77), []byte("elsewhere"))}, n)
}

// A state of just so many nodes.
func sized(n int, b book) api.Tree {
	t := stateOf(b)
	t.Nodes = append(t.Nodes, leaves(n-len(t.Nodes))...)
	return t
}

func alikeNodes(a, b api.Node) bool {
	return a.Leaf == b.Leaf && a.Key == b.Key && bytes.Equal(a.Value, b.Value) && a.Left == b.Left && a.Right == b.Right
}

func isZero(t api.Tree) bool {
	return len(t.Nodes) == 0 && t.Root == 0
}

func brief(t api.Tree) string {
	var b strings.Builder
	fmt.Fprintf(&b, "root %d of %d nodes", t.Root, len(t.Nodes))
	for _, at := range t.Nodes[:min(len(t.Nodes), 4)] {
		fmt.Fprintf(&b, "; %t %x %x %d %d", at.Leaf, at.Key, at.Value, at.Left, at.Right)
	}
	return b.String()
}

func wantError(t *testing.T, what string, want api.Errno, out api.Tree, code, e api.Errno) {
	t.Helper()
	if e != want || code != api.OK || !isZero(out) {
		t.Errorf("%s: error %d, code %d and %s, want error %d and nothing", what, e, code, brief(out), want)
	}
}

// A state, of old's nodes and at most so many more, that has what the book tells.
func wantState(t *testing.T, what string, old, got api.Tree, most int, want book) {
	t.Helper()
	more := len(got.Nodes) - len(old.Nodes)
	if more < 0 || more > most || !slices.EqualFunc(got.Nodes[:len(old.Nodes)], old.Nodes, alikeNodes) {
		t.Errorf("%s: %d more nodes, or others than there were", what, more)
		return
	}
	l, e := tree.Pairs(got)
	if e != api.OK {
		t.Errorf("%s: what is answered may not be: %s", what, brief(got))
		return
	}
	right := len(l) == len(want)
	for _, p := range l {
		a, has := want[p.Key]
		right = right && has && bytes.Equal(p.Value, bytesOf(a))
	}
	if !right {
		t.Errorf("%s: %v, want %v", what, l, want)
	}
}

// wantPaid pays, and holds all that is told against the book of t.
func wantPaid(t *testing.T, what string, old api.Tree, b book, x api.Tx, box api.Digest) (api.Tree, book) {
	t.Helper()
	want, wantCode := b.paid(x, acct.Key(x.Pub), box)
	out, code, e := purse.Pay(old, x, box)
	if e != api.OK || code != wantCode {
		t.Errorf("%s: code %d, error %d, want code %d", what, code, e, wantCode)
	} else {
		wantState(t, what, old, out, 4*giftRoom, want)
	}
	return out, want
}

func wantGiven(t *testing.T, what string, old api.Tree, b book, d api.Deposit) (api.Tree, book) {
	t.Helper()
	want, wantCode := b.given(b, []api.Digest{d.To}, []uint64{d.Amount})
	out, code, e := purse.Give(old, d)
	if e != api.OK || code != wantCode {
		t.Errorf("%s: code %d, error %d, want code %d", what, code, e, wantCode)
	} else {
		wantState(t, what, old, out, giftRoom, want)
	}
	return out, want
}

// The chapter's examples.

func TestExamples(t *testing.T) {
	ten := book{payer: account(0, 10)}
	old := stateOf(ten)
	for _, c := range []struct {
		amount, fee uint64
		code        api.Errno
		want        book
	}{
		{7, 2, api.OK, book{payer: account(1, 1), receiver: account(0, 7), box: account(0, 2)}},
		{9, 2, api.ErrPoor, book{payer: account(1, 10)}},
		{greatest, 1, api.ErrPoor, book{payer: account(1, 10)}},
	} {
		what := fmt.Sprint("Amount ", c.amount, ", Fee ", c.fee)
		out, code, e := purse.Pay(old, paying(receiver, 0, c.amount, c.fee), box)
		if code != c.code || e != api.OK {
			t.Errorf("%s: code %d, error %d", what, code, e)
			continue
		}
		wantState(t, what, old, out, 4*giftRoom, c.want)
	}
	out, code, e := purse.Pay(old, paying(receiver, 1, 7, 2), box)
	wantError(t, "nonce 1", api.ErrArg, out, code, e)
	out, code, e = purse.Give(old, gift(payer, greatest))
	if code != api.ErrOver || e != api.OK {
		t.Errorf("a deposit of 2^64 less 1: code %d, error %d", code, e)
	}
	wantState(t, "a deposit of 2^64 less 1", old, out, giftRoom, ten)
}

// P15.1: the state behind, and the code.

// Who is paid and who gets the fees: the payer, one of the others, or one who has the key
// of none.
func roles() map[string][2]api.Digest {
	return map[string][2]api.Digest{
		"three":              {receiver, box},
		"To the payer":       {payer, box},
		"the box the payer":  {receiver, payer},
		"To the box":         {box, box},
		"all one":            {payer, payer},
		"keys of all 0 bits": {api.Digest{}, filled(255)},
		"To the Pub":         {pub(0), box},
	}
}

func TestPayTellsTheStateBehind(t *testing.T) {
	others := []uint64{0, 1, 1 << 63, greatest - 9, greatest}
	for role, r := range roles() {
		for _, balance := range []uint64{0, 1, 10, 1 << 63, greatest} {
			for _, amount := range []uint64{0, 1, 9, 10, 1 << 63, greatest} {
				for _, fee := range []uint64{0, 1, 10, 1 << 63, greatest} {
					for i := range len(others) * len(others) {
						b := crowd(2).with(r[0], account(3, others[i%len(others)]))
						b = b.with(r[1], account(0, others[i/len(others)])).with(payer, account(0, balance))
						what := fmt.Sprint(role, ": ", amount, " and ", fee, " of ", b)
						wantPaid(t, what, stateOf(b), b, paying(r[0], 0, amount, fee), r[1])
					}
				}
			}
		}
	}
}

// All that decides is about an edge: just enough, just in a number, just not over.
func TestPayAboutTheEdges(t *testing.T) {
	for _, c := range []struct {
		what                     string
		balance, amount, fee     uint64
		inTo, inBox              uint64
		code                     api.Errno
		leftPayer, leftTo, inEnd uint64
	}{
		{"nothing of nothing", 0, 0, 0, 0, 0, api.OK, 0, 0, 0},
		{"one of nothing", 0, 1, 0, 0, 0, api.ErrPoor, 0, 0, 0},
		{"a fee of nothing", 0, 0, 1, 0, 0, api.ErrPoor, 0, 0, 0},
		{"all there is", 10, 8, 2, 1, 1, api.OK, 0, 9, 3},
		{"one more", 10, 8, 3, 1, 1, api.ErrPoor, 10, 1, 1},
		{"one more of the Amount", 10, 9, 2, 1, 1, api.ErrPoor, 10, 1, 1},
		{"the Amount is all, the Fee too much", 10, 10, 1, 1, 1, api.ErrPoor, 10, 1, 1},
		{"the greatest number", greatest, greatest - 1, 1, 1, 0, api.OK, 0, greatest, 1},
		{"together 2^64", greatest, greatest, 1, 0, 0, api.ErrPoor, greatest, 0, 0},
		{"together 2^64, halves", greatest, 1 << 63, 1 << 63, 0, 0, api.ErrPoor, greatest, 0, 0},
		{"together 2^64 and 1", 10, greatest, 2, 0, 0, api.ErrPoor, 10, 0, 0},
		{"together 2^65 less 2", greatest, greatest, greatest, 0, 0, api.ErrPoor, greatest, 0, 0},
		{"To just not over", 10, 5, 1, greatest - 5, 0, api.OK, 4, greatest, 1},
		{"To just over", 10, 5, 1, greatest - 4, 0, api.ErrOver, 10, greatest - 4, 0},
		{"To full, and nothing for it", 10, 0, 1, greatest, 0, api.OK, 9, greatest, 1},
		{"the box just not over", 10, 5, 3, 0, greatest - 3, api.OK, 2, 5, greatest},
		{"the box just over", 10, 5, 3, 0, greatest - 2, api.ErrOver, 10, 0, greatest - 2},
		{"the box full, and nothing for it", 10, 5, 0, 0, greatest, api.OK, 5, 5, greatest},
		{"both over", 10, 5, 3, greatest, greatest, api.ErrOver, 10, greatest, greatest},
		{"poor, and both would be over", 10, 8, 3, greatest, greatest, api.ErrPoor, 10, greatest, greatest},
	} {
		b := book{payer: account(4, c.balance)}.with(receiver, account(0, c.inTo)).with(box, account(0, c.inBox))
		want := book{payer: account(5, c.leftPayer)}.with(receiver, account(0, c.leftTo)).with(box, account(0, c.inEnd))
		old := stateOf(b)
		out, code, e := purse.Pay(old, paying(receiver, 4, c.amount, c.fee), box)
		if code != c.code || e != api.OK {
			t.Errorf("%s: code %d, error %d", c.what, code, e)
			continue
		}
		wantState(t, c.what, old, out, 4*giftRoom, want)
	}
}

// The step that takes comes ahead of those that give, and each sees what was done ahead.
func TestPayWithinOneAccount(t *testing.T) {
	for _, c := range []struct {
		what                 string
		to, box              api.Digest
		balance, amount, fee uint64
		inBox                uint64
		code                 api.Errno
		left, inEnd          uint64
	}{
		{"to oneself", payer, box, 10, 7, 2, 0, api.OK, 8, 2},
		{"to oneself, all there is", payer, box, greatest, greatest, 0, 0, api.OK, greatest, 0},
		{"to oneself, too poor", payer, box, 10, 9, 2, 0, api.ErrPoor, 10, 0},
		{"to oneself, the box over", payer, box, 10, 7, 2, greatest - 1, api.ErrOver, 10, greatest - 1},
		{"the box is one's own", box, payer, 10, 7, 2, 5, api.OK, 3, 12},
		{"the box is one's own, and full", box, payer, greatest, 0, greatest, 5, api.OK, greatest, 5},
		{"the box is one's own, To over", box, payer, 10, 7, 2, greatest - 6, api.ErrOver, 10, greatest - 6},
		{"both are one's own", payer, payer, greatest, 7, greatest - 7, 0, api.OK, greatest, 0},
		{"both are one's own, too poor", payer, payer, 8, 7, 2, 0, api.ErrPoor, 8, 0},
		{"To the box", box, box, 10, 7, 2, 1, api.OK, 1, 10},
		{"To the box, just not over", box, box, 10, 7, 2, greatest - 9, api.OK, 1, greatest},
		{"To the box, over by the Fee", box, box, 10, 7, 2, greatest - 8, api.ErrOver, 10, greatest - 8},
		{"To the box, over by the Amount", box, box, 10, 7, 2, greatest - 6, api.ErrOver, 10, greatest - 6},
	} {
		old := stateOf(book{payer: account(4, c.balance)}.with(box, account(9, c.inBox)))
		out, code, e := purse.Pay(old, paying(c.to, 4, c.amount, c.fee), c.box)
		if code != c.code || e != api.OK {
			t.Errorf("%s: code %d, error %d", c.what, code, e)
			continue
		}
		wantState(t, c.what, old, out, 4*giftRoom, book{payer: account(5, c.left), box: account(9, c.inEnd)})
	}
}

// One who has no account has nonce 0, and has an account behind.
func TestPayOfOneWhoHasNoAccount(t *testing.T) {
	for _, b := range []book{{}, crowd(1), crowd(9)} {
		for _, amount := range []uint64{0, 1, greatest} {
			out, want := wantPaid(t, "of none", stateOf(b), b, paying(receiver, 0, amount, 0), box)
			if want[payer] != account(1, 0) || len(want) != len(b)+1 {
				t.Fatalf("the book is wrong: %v", want)
			}
			if a, e := acct.Get(out, payer); e != api.OK || a != account(1, 0) {
				t.Errorf("behind it: %v, error %d", a, e)
			}
		}
		out, code, e := purse.Pay(stateOf(b), paying(receiver, 1, 0, 0), box)
		wantError(t, "nonce 1 of none", api.ErrArg, out, code, e)
	}
}

// Nothing that is paid makes no account, but for the payer's own.
func TestPayOfNothing(t *testing.T) {
	b := book{payer: account(2, 5)}
	out, want := wantPaid(t, "nothing", stateOf(b), b, paying(receiver, 2, 0, 0), box)
	if l, e := tree.Pairs(out); e != api.OK || len(l) != 1 || len(want) != 1 {
		t.Errorf("%d accounts, error %d", len(l), e)
	}
}

func nonces() []uint64 {
	list := []uint64{0, 1, 2, 255, 256, math.MaxUint32, 1 << 32, 1<<63 - 1, 1 << 63, greatest - 2, greatest - 1, greatest}
	for i := range 64 {
		list = append(list, 1<<i, 1<<i-1)
	}
	return list
}

func TestPayOfEachNonce(t *testing.T) {
	for _, nonce := range nonces() {
		b := book{payer: account(nonce, 10)}
		for _, amount := range []uint64{7, 11} {
			x := paying(receiver, nonce, amount, 2)
			if nonce != greatest {
				wantPaid(t, fmt.Sprint("nonce ", nonce), stateOf(b), b, x, box)
				continue
			}
			out, code, e := purse.Pay(stateOf(b), x, box)
			wantError(t, "the last nonce", api.ErrArg, out, code, e)
		}
	}
}

func TestPayRefusesOtherNonces(t *testing.T) {
	for _, own := range []uint64{0, 1, 5, 1 << 32, greatest - 1, greatest} {
		old := stateOf(crowd(3).with(payer, account(own, 10)).with(receiver, account(7, 1)).with(box, account(8, 1)))
		for _, nonce := range append(nonces(), own-1, own+1, own+256, 7, 8) {
			if nonce == own {
				continue
			}
			out, code, e := purse.Pay(old, paying(receiver, nonce, 7, 2), box)
			wantError(t, fmt.Sprint("nonce ", nonce, ", the account's ", own), api.ErrArg, out, code, e)
		}
	}
}

// Whose account has another name, another kind of key, or that of To.
func TestPayGoesByTheSendersKey(t *testing.T) {
	b := book{pub(0): account(5, 100), receiver: account(5, 100), box: account(5, 100)}
	out, code, e := purse.Pay(stateOf(b), paying(receiver, 5, 7, 2), box)
	wantError(t, "nonce 5, the account's 0", api.ErrArg, out, code, e)
	wantPaid(t, "nonce 0", stateOf(b), b, paying(receiver, 0, 7, 2), box)
}

// P15.1: what is not signed.

func unsigned() map[string]api.Tx {
	right := paying(receiver, 4, 7, 2)
	all := map[string]api.Tx{"no Sign": right, "another one's Sign": right, "the id": right, "the body's digest": right, "all zero": {}}
	for what, sign := range map[string]api.Digest{
		"no Sign":            {},
		"another one's Sign": paying(receiver, 4, 7, 3).Sign,
		"the id":             tx.Id(right),
		"the body's digest":  sha256.Sum256(tx.Body(right)),
	} {
		x := all[what]
		x.Sign = sign
		all[what] = x
	}
	for i := range 256 {
		x, y, z := right, right, right
		x.Sign, y.Pub, z.To = turned(x.Sign, i), turned(y.Pub, i), turned(z.To, i)
		all[fmt.Sprint("bit ", i, " of the Sign")] = x
		all[fmt.Sprint("bit ", i, " of Pub")] = y
		all[fmt.Sprint("bit ", i, " of To")] = z
	}
	for i := range 64 {
		x, y, z := right, right, right
		x.Nonce, y.Amount, z.Fee = x.Nonce^1<<i, y.Amount^1<<i, z.Fee^1<<i
		all[fmt.Sprint("bit ", i, " of the Nonce")] = x
		all[fmt.Sprint("bit ", i, " of the Amount")] = y
		all[fmt.Sprint("bit ", i, " of the Fee")] = z
	}
	return all
}

func TestPayRefusesWhatIsNotSigned(t *testing.T) {
	full := sized(api.MaxNodes, book{payer: account(4, 10)})
	for what, x := range unsigned() {
		for nonce := range uint64(6) {
			out, code, e := purse.Pay(stateOf(book{payer: account(nonce, 10)}), x, box)
			wantError(t, fmt.Sprint(what, ", nonce ", nonce), api.ErrSign, out, code, e)
		}
		if strings.HasPrefix(what, "bit ") {
			continue
		}
		out, code, e := purse.Pay(full, x, box)
		wantError(t, what+", full", api.ErrSign, out, code, e)
	}
}

// P15.1 and P15.2: what is no state.

// Trees that may not be, though each value is an account's; and trees that may be, with
// a value that is none.
func wrongStates() map[string]api.Tree {
	v := bytesOf(account(4, 258))
	a, b := leafOf(api.Digest{3}, v), leafOf(api.Digest{200}, v)
	fork := api.Node{Left: 1, Right: 2}
	all := map[string]api.Tree{
		"a fork of two 0s":      {Nodes: []api.Node{{}}, Root: 1},
		"a fork of one leaf":    {Nodes: []api.Node{a, {Left: 1}}, Root: 2},
		"a fork to itself":      {Nodes: []api.Node{a, {Left: 1, Right: 2}}, Root: 2},
		"both turned":           {Nodes: []api.Node{b, a, fork}, Root: 3},
		"a leaf's left":         {Nodes: []api.Node{a, {Leaf: true, Key: b.Key, Value: v, Left: 1}}, Root: 2},
		"a long leaf elsewhere": {Nodes: []api.Node{a, leafOf(b.Key, counted(65))}, Root: 1},
		"root behind the last":  {Nodes: []api.Node{a, b, fork}, Root: 4},
		"root less than 0":      {Nodes: []api.Node{a, b, fork}, Root: -1},
		"root the greatest":     {Nodes: []api.Node{a, b, fork}, Root: math.MaxInt},
		"root of nothing":       {Root: 1},
		"a node too many":       {Nodes: slices.Repeat([]api.Node{a}, api.MaxNodes+1), Root: 1},
		"no node is led to":     {Nodes: slices.Repeat([]api.Node{a}, api.MaxNodes+1)},
	}
	for _, value := range [][]byte{make([]byte, 16), counted(1), counted(15), counted(17), counted(64)} {
		// The wrong one is the payer's own, To's, the box's, or nobody's.
		for i, k := range []api.Digest{payer, receiver, box, hashed(0)} {
			x := stateOf(crowd(5).with(payer, account(4, 10)).with(receiver, account(0, 1)).with(box, account(0, 1)))
			x, e := tree.Put(x, k, value)
			if e != api.OK {
				panic("a value is put")
			}
			all[fmt.Sprint(len(value), " bytes for ", i)] = x
		}
	}
	full := sized(api.MaxNodes-1, book{})
	full.Nodes = append(full.Nodes, leafOf(hashed(0), make([]byte, 16)))
	full.Root = api.MaxNodes
	all["a full one"] = full
	return all
}

func TestWhatIsNoStateIsRefused(t *testing.T) {
	signed := paying(receiver, 4, 7, 2)
	for what, old := range wrongStates() {
		for _, x := range []api.Tx{signed, {}, paying(receiver, 0, 7, 2), paying(payer, greatest, greatest, greatest)} {
			out, code, e := purse.Pay(old, x, box)
			wantError(t, "Pay: "+what, api.ErrBad, out, code, e)
		}
		for _, d := range []api.Deposit{gift(receiver, 5), gift(payer, 0), gift(payer, greatest), {}} {
			out, code, e := purse.Give(old, d)
			wantError(t, "Give: "+what, api.ErrBad, out, code, e)
		}
	}
}

// Another version's values count for nothing.
func TestOtherVersionsAreNotAsked(t *testing.T) {
	zero := leafOf(payer, make([]byte, 16))
	b := book{payer: account(4, 10), hashed(1): account(1, 1)}
	old := stateBehind([]api.Node{zero, leafOf(payer, bytesOf(account(9, 99)))}, b)
	wantPaid(t, "a payment", old, b, paying(receiver, 4, 7, 2), box)
	wantGiven(t, "a gift", old, b, gift(payer, 5))
	for root := range 3 {
		old.Root = root
		_, _, e := purse.Give(old, gift(receiver, 5))
		if (e == api.ErrBad) != (root == 1) {
			t.Errorf("at root %d: error %d", root, e)
		}
	}
}

// P15.1 and P15.2: how many nodes there are.

func fullBook() book {
	return book{payer: account(4, 10), receiver: account(1, 1), box: account(0, greatest)}
}

// What becomes of the payment, or the gift, counts for nothing.
func TestFullStatesAreRefused(t *testing.T) {
	b := fullBook()
	for _, n := range []int{api.MaxNodes - room + 1, api.MaxNodes - giftRoom, api.MaxNodes - giftRoom + 1, api.MaxNodes} {
		old := sized(n, b)
		for _, x := range []api.Tx{paying(receiver, 4, 7, 0), paying(receiver, 4, 11, 0), paying(receiver, 4, 7, 2), paying(receiver, 4, 0, 0)} {
			out, code, e := purse.Pay(old, x, box)
			wantError(t, fmt.Sprint("Pay in ", n, " nodes"), api.ErrFull, out, code, e)
		}
		for _, d := range []api.Deposit{gift(receiver, 5), gift(hashed(5), 0), gift(box, 1), gift(payer, 0)} {
			out, code, e := purse.Give(old, d)
			wantError(t, fmt.Sprint("Give in ", n, " nodes"), api.ErrFull, out, code, e)
		}
	}
}

func TestStatesThatAreJustNotFull(t *testing.T) {
	b := fullBook()
	old := sized(api.MaxNodes-room, b)
	for _, x := range []api.Tx{paying(receiver, 4, 7, 0), paying(hashed(5), 4, 10, 0), paying(receiver, 4, 11, 0), paying(receiver, 4, 7, 2)} {
		wantPaid(t, "the last payment", old, b, x, box)
	}
	for _, d := range []api.Deposit{gift(receiver, 5), gift(hashed(5), 5), gift(hashed(5), 0), gift(box, 1)} {
		wantGiven(t, "the last gift", old, b, d)
	}
}

// Each step goes down to the last bit, and so puts as many nodes as it can.
func TestTheDeepestStates(t *testing.T) {
	b := joined(comb(payer), book{payer: account(4, 10)})
	for _, pad := range []int{0, api.MaxNodes - room} {
		old := stateOf(b)
		if pad > 0 {
			old = sized(pad, b)
		}
		x := paying(turned(turned(payer, 255), 254), 4, 7, 2)
		wantPaid(t, "at the last bits", old, b, x, turned(payer, 255))
		wantPaid(t, "at the last bits, turned", old, b, paying(turned(payer, 255), 4, 7, 2), turned(turned(payer, 254), 253))
		wantPaid(t, "one account", old, b, paying(payer, 4, 7, 2), payer)
		wantGiven(t, "at the last bit", old, b, gift(turned(turned(payer, 255), 254), 5))
	}
	alone := book{payer: account(4, 10)}
	wantPaid(t, "two that part at the last bit", stateOf(alone), alone, paying(turned(payer, 255), 4, 7, 2), turned(payer, 255))
}

// P15.1: of several errors the one named first.

func TestTheErrorNamedFirst(t *testing.T) {
	right, bad := fullBook(), leafOf(hashed(0), make([]byte, 16))
	for i := range 16 {
		isBad, isUnsigned, isOther, isFull := i&1 > 0, i&2 > 0, i&4 > 0, i&8 > 0
		n := 1000
		if isFull {
			n = api.MaxNodes
		}
		old := sized(n, right)
		if isBad {
			old.Nodes[n-1] = bad
			old.Root = n
		}
		x := paying(receiver, 4, 7, 0)
		if isOther {
			x = paying(receiver, 5, 7, 0)
		}
		if isUnsigned {
			x.Sign = turned(x.Sign, 9)
		}
		what := fmt.Sprint("no state: ", isBad, ", not signed: ", isUnsigned, ", another nonce: ", isOther, ", full: ", isFull)
		out, code, e := purse.Pay(old, x, box)
		switch {
		case isBad:
			wantError(t, what, api.ErrBad, out, code, e)
		case isUnsigned:
			wantError(t, what, api.ErrSign, out, code, e)
		case isOther:
			wantError(t, what, api.ErrArg, out, code, e)
		case isFull:
			wantError(t, what, api.ErrFull, out, code, e)
		case e != api.OK:
			t.Errorf("%s: error %d", what, e)
		}
		out, code, e = purse.Give(old, gift(receiver, 1))
		switch {
		case isBad:
			wantError(t, "Give, "+what, api.ErrBad, out, code, e)
		case isFull:
			wantError(t, "Give, "+what, api.ErrFull, out, code, e)
		case e != api.OK:
			t.Errorf("Give, %s: error %d", what, e)
		}
	}
}

// P15.2: Give.

func TestGiveTellsTheStateBehind(t *testing.T) {
	numbers := []uint64{0, 1, 2, 10, math.MaxUint32, 1 << 63, 1<<63 - 1, greatest - 10, greatest - 1, greatest}
	for _, others := range []book{{}, crowd(1), crowd(20)} {
		for _, balance := range numbers {
			for _, nonce := range []uint64{0, 1, greatest} {
				b := others.with(receiver, account(nonce, balance))
				old := stateOf(b)
				for _, amount := range numbers {
					wantGiven(t, fmt.Sprint(amount, " to ", b[receiver]), old, b, gift(receiver, amount))
				}
			}
		}
	}
}

func TestGiveAboutTheEdge(t *testing.T) {
	for _, c := range []struct {
		balance, amount uint64
		code            api.Errno
		want            uint64
	}{
		{0, greatest, api.OK, greatest}, {1, greatest - 1, api.OK, greatest}, {1, greatest, api.ErrOver, 1},
		{greatest, 0, api.OK, greatest}, {greatest, 1, api.ErrOver, greatest}, {greatest, greatest, api.ErrOver, greatest},
		{1 << 63, 1<<63 - 1, api.OK, greatest}, {1 << 63, 1 << 63, api.ErrOver, 1 << 63},
	} {
		old := stateOf(book{receiver: account(3, c.balance)})
		out, code, e := purse.Give(old, gift(receiver, c.amount))
		what := fmt.Sprint(c.amount, " to ", c.balance)
		if code != c.code || e != api.OK {
			t.Errorf("%s: code %d, error %d", what, code, e)
			continue
		}
		wantState(t, what, old, out, giftRoom, book{receiver: account(3, c.want)})
	}
}

// Nothing is done: no node is put.
func TestGiveThatIsOverIsTheStateItself(t *testing.T) {
	for _, others := range []book{{}, crowd(20), comb(receiver)} {
		old := stateOf(others.with(receiver, account(3, 10)))
		out, code, e := purse.Give(old, gift(receiver, greatest-9))
		if code != api.ErrOver || e != api.OK || !tree.Same(out, old) {
			t.Errorf("code %d, error %d: %s", code, e, brief(out))
		}
	}
}

// A deposit's Number is nobody's here, and To is a key, whatever it is the key of.
func TestGiveGoesByToAlone(t *testing.T) {
	b := crowd(3)
	old := stateOf(b)
	for _, to := range []api.Digest{{}, filled(255), pub(0), who(0), hashed(1)} {
		first, _ := wantGiven(t, "a gift", old, b, gift(to, 5))
		for _, number := range []uint64{0, 1, 1 << 63, greatest} {
			out, code, e := purse.Give(old, api.Deposit{Number: number, To: to, Amount: 5})
			if code != api.OK || e != api.OK || !tree.Same(out, first) {
				t.Errorf("number %d: code %d, error %d: %s", number, code, e, brief(out))
			}
		}
	}
}

func TestGiveToTheEmptyState(t *testing.T) {
	for _, empty := range []api.Tree{{}, {Nodes: []api.Node{}}, {Nodes: leaves(3)}} {
		out, _ := wantGiven(t, "one", empty, book{}, gift(receiver, 1))
		if isZero(out) {
			t.Error("there is no account")
		}
		out, _ = wantGiven(t, "nothing", empty, book{}, gift(receiver, 0))
		if out.Root != 0 {
			t.Errorf("nothing makes no account: %s", brief(out))
		}
	}
}

// P15.3.

// What stands behind a list's end, or a value's, is its caller's: neither read nor changed.
func roomy(t api.Tree) api.Tree {
	out := make([]api.Node, 0, len(t.Nodes)+3)
	for _, at := range t.Nodes {
		v := append(make([]byte, 0, len(at.Value)+8), at.Value...)
		copy(v[len(v):cap(v)], "beyond!!")
		at.Value = v
		out = append(out, at)
	}
	for i := range cap(out) - len(out) {
		out[:cap(out)][len(out)+i] = leafOf(hashed(i), []byte("beyond"))
	}
	return api.Tree{Nodes: out, Root: t.Root}
}

func wholly(t api.Tree) string {
	b := fmt.Append(nil, t.Root, " ", len(t.Nodes))
	for _, at := range t.Nodes[:cap(t.Nodes)] {
		b = fmt.Appendf(b, "%t %x %d: %x %d %d\n", at.Leaf, at.Key, len(at.Value), at.Value[:cap(at.Value)], at.Left, at.Right)
	}
	return string(b)
}

// Also what an append to it would write to.
func overwrite(t api.Tree) {
	nodes := t.Nodes[:cap(t.Nodes)]
	for i := range nodes {
		v := nodes[i].Value[:cap(nodes[i].Value)]
		for j := range v {
			v[j] ^= 0xff
		}
		nodes[i] = leafOf(hashed(99), []byte("overwritten"))
	}
}

// A call of this layer, whatever it is.
type doing func(api.Tree) (api.Tree, api.Errno, api.Errno)

// Calls with each code, and such as are refused, in a state of fullBook.
func doings() map[string]doing {
	pays := func(x api.Tx, box api.Digest) doing {
		return func(t api.Tree) (api.Tree, api.Errno, api.Errno) { return purse.Pay(t, x, box) }
	}
	gives := func(d api.Deposit) doing {
		return func(t api.Tree) (api.Tree, api.Errno, api.Errno) { return purse.Give(t, d) }
	}
	return map[string]doing{
		"a payment":             pays(paying(receiver, 4, 7, 2), hashed(5)),
		"a payment of nothing":  pays(paying(receiver, 4, 0, 0), hashed(5)),
		"to oneself":            pays(paying(payer, 4, 7, 2), payer),
		"a poor one":            pays(paying(receiver, 4, 7, 4), hashed(5)),
		"one that is over":      pays(paying(receiver, 4, 7, 2), box),
		"one that is not now":   pays(paying(receiver, 5, 7, 2), box),
		"one that isn't signed": pays(api.Tx{Nonce: 4}, box),
		"a gift":                gives(gift(receiver, 5)),
		"a gift to a new one":   gives(gift(hashed(5), 5)),
		"a gift of nothing":     gives(gift(hashed(5), 0)),
		"a gift that is over":   gives(gift(box, 5)),
	}
}

func TestWhatIsHandedInStays(t *testing.T) {
	all := []api.Tree{{}, stateOf(fullBook()), stateOf(joined(fullBook(), comb(payer))), stateBehind(leaves(5), joined(fullBook(), crowd(30)))}
	for _, x := range wrongStates() {
		if len(x.Nodes) < 3000 {
			all = append(all, x)
		}
	}
	for _, x := range all {
		in := roomy(x)
		before := wholly(in)
		for what, do := range doings() {
			do(in)
			if wholly(in) != before {
				t.Fatalf("%s: a tree of %d nodes is changed", what, len(x.Nodes))
			}
		}
	}
}

// What is answered is overwritten, and changes neither the state nor what is answered
// behind it; nor is it changed with the state.
func TestWhatIsAnsweredIsNewMemory(t *testing.T) {
	for what, do := range doings() {
		in := roomy(stateOf(joined(fullBook(), crowd(4))))
		before := wholly(in)
		first, code, e := do(in)
		second, _, _ := do(in)
		want := wholly(tree.Twin(second))
		overwrite(first)
		if wholly(in) != before {
			t.Errorf("%s: what is answered is not new memory", what)
		}
		if wholly(tree.Twin(second)) != want {
			t.Errorf("%s: what is answered twice shares memory", what)
		}
		third, c, d := do(in)
		if wholly(tree.Twin(third)) != want || c != code || d != e {
			t.Errorf("%s: it is not answered again", what)
		}
		overwrite(in)
		if wholly(tree.Twin(third)) != want {
			t.Errorf("%s: what is answered is changed with the state", what)
		}
	}
}

// No two values that are answered share memory.
func TestValuesThatAreAnsweredAreEachTheirOwn(t *testing.T) {
	for what, do := range doings() {
		out, _, _ := do(stateOf(joined(fullBook(), crowd(4))))
		for i, at := range out.Nodes {
			if !at.Leaf {
				continue
			}
			before := wholly(tree.Twin(out))
			at.Value[0] ^= 0xff
			changed := strings.Split(wholly(tree.Twin(out)), "\n")
			at.Value[0] ^= 0xff
			var others int
			for n, line := range strings.Split(before, "\n") {
				if line != changed[n] {
					others++
				}
			}
			if others != 1 {
				t.Errorf("%s: node %d's value changes %d of them", what, i+1, others)
			}
		}
	}
}

// P15.3 and P15.4, by long walks.

// A walk is a state, and the book that it is to have, all that was paid on the way, and
// how often each code was told of that, and of gifts.
type walk struct {
	state       api.Tree
	b           book
	paid        []api.Tx
	codes, gift map[api.Errno]int
	random      *rand.Rand
}

// Often few, so that they are met again, and often so great that something runs over.
func (w *walk) number() uint64 {
	return w.random.Uint64() >> []int{0, 0, 1, 2, 58, 60, 62, 64}[w.random.Intn(8)]
}

const people = 5

func (w *walk) payment() (api.Tx, api.Digest) {
	i := w.random.Intn(people)
	x := api.Tx{Pub: pub(i), To: who(w.random.Intn(people)), Amount: w.number(), Fee: w.number()}
	x.Nonce = w.b[who(i)].Nonce
	if has := w.b[who(i)].Balance; has > 1 && w.random.Intn(2) == 0 {
		// Else few could be paid.
		x.Amount = w.random.Uint64() % has
		x.Fee = w.random.Uint64() % (has - x.Amount + 1)
	}
	return tx.Sign(x), who(w.random.Intn(people))
}

func (w *walk) step(t *testing.T) {
	old, before := w.state, w.b
	if w.random.Intn(3) == 0 {
		d := api.Deposit{Number: w.number(), To: who(w.random.Intn(people)), Amount: w.number()}
		w.state, w.b = wantGiven(t, fmt.Sprint(d), w.state, w.b, d)
		_, code, _ := purse.Give(old, d)
		w.gift[code]++
		gain := new(big.Int)
		if code == api.OK {
			gain.SetUint64(d.Amount)
		}
		wantTotal(t, w.state, new(big.Int).Add(before.total(), gain))
	} else {
		x, box := w.payment()
		w.state, w.b = wantPaid(t, fmt.Sprint(x), w.state, w.b, x, box)
		_, code, _ := purse.Pay(old, x, box)
		w.codes[code]++
		w.paid = append(w.paid, x)
		wantTotal(t, w.state, before.total())
	}
	version, e := tree.At(w.state, old.Root)
	if e != api.OK {
		t.Fatalf("the version ahead: error %d", e)
	}
	version.Nodes = version.Nodes[:len(old.Nodes)]
	if !tree.Same(version, old) {
		t.Error("the version ahead is another one")
	}
}

func wantTotal(t *testing.T, x api.Tree, want *big.Int) {
	t.Helper()
	high, low, e := acct.Total(x)
	got := new(big.Int).SetUint64(high)
	got.Lsh(got, 64).Add(got, new(big.Int).SetUint64(low))
	if e != api.OK || got.Cmp(want) != 0 {
		t.Errorf("the total is %s, error %d, want %s", got, e, want)
	}
}

func TestWalks(t *testing.T) {
	codes, gift := map[api.Errno]int{}, map[api.Errno]int{}
	for seed := range int64(12) {
		b := crowd(int(seed))
		w := &walk{state: stateOf(b), b: b, codes: codes, gift: gift, random: rand.New(rand.NewSource(seed))}
		for range 80 {
			w.step(t)
			if t.Failed() {
				t.Fatalf("in walk %d", seed)
			}
		}
		// A transaction is paid once: never again, whatever was paid and given behind it.
		for _, x := range w.paid {
			out, code, e := purse.Pay(w.state, x, box)
			wantError(t, "paid again", api.ErrArg, out, code, e)
		}
		for k, a := range crowd(int(seed)) {
			if got, e := acct.Get(w.state, k); e != api.OK || got != a {
				t.Errorf("one who is not named: %v, error %d, want %v", got, e, a)
			}
		}
	}
	for _, few := range []int{codes[api.OK], codes[api.ErrPoor], codes[api.ErrOver], gift[api.OK], gift[api.ErrOver]} {
		if few < 20 {
			t.Errorf("codes are told too seldom: of payments %v, of gifts %v", codes, gift)
		}
	}
}

// What is paid can't be paid in the state behind it, whatever became of it.
func TestPaidOnce(t *testing.T) {
	for _, c := range []struct{ amount, fee uint64 }{{7, 2}, {0, 0}, {9, 2}, {greatest, 1}, {1, 1}} {
		x := paying(receiver, 4, c.amount, c.fee)
		old := stateOf(fullBook())
		out, _, e := purse.Pay(old, x, box)
		if e != api.OK {
			t.Fatalf("%d and %d: error %d", c.amount, c.fee, e)
		}
		again, code, e := purse.Pay(out, x, box)
		wantError(t, "paid again", api.ErrArg, again, code, e)
		more, _, e := purse.Give(out, gift(payer, 5))
		if e != api.OK {
			t.Fatalf("a gift: error %d", e)
		}
		again, code, e = purse.Pay(more, x, box)
		wantError(t, "paid again behind a gift", api.ErrArg, again, code, e)
		// In the version ahead it is paid as it was.
		ahead, _ := tree.At(out, old.Root)
		if _, _, e := purse.Pay(ahead, x, box); e != api.OK {
			t.Errorf("in the version ahead: error %d", e)
		}
	}
}

// The accounts of none who is named stay, also of those whose keys differ from a named one
// in one bit.
func TestAccountsOfNoneWhoIsNamedStay(t *testing.T) {
	for _, named := range []api.Digest{payer, receiver, box} {
		b := comb(named).with(payer, account(4, 10))
		old := stateOf(b)
		out, _ := wantPaid(t, "a payment", old, b, paying(receiver, 4, 7, 2), box)
		wantPaid(t, "a poor one", old, b, paying(receiver, 4, 9, 2), box)
		wantGiven(t, "a gift", old, b, gift(receiver, 5))
		for k, a := range comb(named) {
			if got, e := acct.Get(out, k); e != api.OK || got != a {
				t.Errorf("%x: %v, error %d, want %v", k, got, e, a)
			}
		}
	}
}

// P1: whatever it is handed, each call ends; what is refused, and what is not, is held
// against acct.

func randomNode(random *rand.Rand, n int) api.Node {
	at := api.Node{Left: random.Intn(n + 1), Right: random.Intn(n + 1)}
	if random.Intn(3) > 0 {
		at = leafOf([]api.Digest{payer, receiver, box, {}}[random.Intn(4)], bytesOf(account(uint64(random.Intn(3)), uint64(random.Intn(2)))))
	}
	if random.Intn(40) == 0 {
		at.Value = counted(random.Intn(70))
	}
	if random.Intn(60) == 0 {
		at.Left = random.Intn(5) - 2
	}
	return at
}

func TestTreesOfWhateverNodes(t *testing.T) {
	random := rand.New(rand.NewSource(15))
	var states int
	for range 20000 {
		var old api.Tree
		for n := range random.Intn(6) {
			old.Nodes = append(old.Nodes, randomNode(random, n))
		}
		old.Root = random.Intn(len(old.Nodes)+3) - 1
		x := paying(receiver, uint64(random.Intn(3)), uint64(random.Intn(2)), uint64(random.Intn(2)))
		sender, wrong := acct.Get(old, payer)
		want := wrong
		if wrong == api.OK {
			states++
			if sender.Nonce != x.Nonce {
				want = api.ErrArg
			}
		}
		out, _, e := purse.Pay(old, x, box)
		if e != want || (e == api.OK) != (acct.Check(out) == api.OK && !isZero(out)) {
			t.Fatalf("Pay: error %d, want %d: %s", e, want, brief(old))
		}
		if _, _, e := purse.Give(old, gift(receiver, 1)); e != wrong {
			t.Fatalf("Give: error %d, want %d: %s", e, wrong, brief(old))
		}
	}
	if states < 1000 {
		t.Errorf("only %d of them are states", states)
	}
}
