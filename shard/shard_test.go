package shard_test

import (
	"bytes"
	"crypto/sha256"
	"encoding/binary"
	"fmt"
	"math"
	"math/rand"
	"slices"
	"testing"

	"beadroll/api"
	"beadroll/shard"
)

const greatest = math.MaxUint64

func hashed(i int) api.Digest {
	return sha256.Sum256([]byte(fmt.Sprint("shard ", i)))
}

func turned(d api.Digest, i int) api.Digest {
	d[i/8] ^= 128 >> (i % 8)
	return d
}

// By the library, and not by tx or what it stands on, so that a fault there shows.
func digested(kind uint8, part []byte) api.Digest {
	b := binary.BigEndian.AppendUint32([]byte{kind}, uint32(len(part)))
	return sha256.Sum256(append(b, part...))
}

func keyOf(pub api.Digest) api.Digest {
	return digested(3, pub[:])
}

func signOf(x api.Tx) api.Digest {
	b := slices.Concat(x.Pub[:], x.To[:])
	for _, n := range []uint64{x.Nonce, x.Amount, x.Fee} {
		b = binary.BigEndian.AppendUint64(b, n)
	}
	return digested(4, b)
}

func signed(x api.Tx) api.Tx {
	x.Sign = signOf(x)
	return x
}

func isSigned(x api.Tx) bool {
	return x.Sign == signOf(x)
}

// The public digests of people whose lines stand in their order: many of their keys share
// the first byte with the next one's.
var people = func() []api.Digest {
	var l []api.Digest
	for i := range 200 {
		l = append(l, hashed(i))
	}
	slices.SortFunc(l, func(a, b api.Digest) int {
		ka, kb := keyOf(a), keyOf(b)
		return bytes.Compare(ka[:], kb[:])
	})
	return l
}()

func key(who int) api.Digest {
	return keyOf(people[who])
}

func pay(who int, nonce, fee uint64) api.Tx {
	return signed(api.Tx{Pub: people[who], To: hashed(999), Nonce: nonce, Amount: 5, Fee: fee})
}

// So many of one's, each nonce one more than that ahead.
func run(who int, first uint64, many int, fee uint64) []api.Tx {
	var l []api.Tx
	for i := range uint64(many) {
		l = append(l, pay(who, first+i, fee))
	}
	return l
}

// One of each of so many, of the nonce 0.
func oneEach(many int, fee func(who int) uint64) []api.Tx {
	var l []api.Tx
	for who := range many {
		l = append(l, pay(who, 0, fee(who)))
	}
	return l
}

// The shard of just these, in whichever order they are told.
func shardOf(l ...api.Tx) api.Shard {
	l = slices.Clone(l)
	slices.SortFunc(l, func(x, y api.Tx) int {
		kx, ky := keyOf(x.Pub), keyOf(y.Pub)
		if c := bytes.Compare(kx[:], ky[:]); c != 0 {
			return c
		}
		if x.Nonce < y.Nonce {
			return -1
		}
		return 1
	})
	var s api.Shard
	for i, x := range l {
		if i == 0 || x.Pub != l[i-1].Pub {
			s.Lines = append(s.Lines, api.Line{From: keyOf(x.Pub)})
		}
		last := &s.Lines[len(s.Lines)-1]
		last.Txs = append(last.Txs, x)
	}
	return s
}

func flat(s api.Shard) []api.Tx {
	var l []api.Tx
	for _, own := range s.Lines {
		l = append(l, own.Txs...)
	}
	return l
}

func copied(s api.Shard) api.Shard {
	lines := slices.Clone(s.Lines)
	for i := range lines {
		lines[i].Txs = slices.Clone(lines[i].Txs)
	}
	return api.Shard{Lines: lines}
}

func with(s api.Shard, changes ...func(s *api.Shard)) api.Shard {
	out := copied(s)
	for _, f := range changes {
		f(&out)
	}
	return out
}

func alike(a, b api.Shard) bool {
	return slices.EqualFunc(a.Lines, b.Lines, func(x, y api.Line) bool {
		return x.From == y.From && slices.Equal(x.Txs, y.Txs)
	})
}

func briefTxs(l []api.Tx) string {
	s := fmt.Sprint(len(l), ":")
	for _, x := range l[:min(len(l), 6)] {
		s += fmt.Sprintf(" %x-%d/%d", x.Pub[:1], x.Nonce, x.Fee)
	}
	return s
}

func brief(s api.Shard) string {
	return fmt.Sprint(len(s.Lines), " lines, ", briefTxs(flat(s)))
}

// A state, and what nonces its accounts have.
type state struct {
	tree   api.Tree
	nonces map[api.Digest]uint64
}

// The state of these people's nonces, by chapter 6's words alone. Who has neither a nonce
// nor a balance has no account.
func stateOf(nonces map[int]uint64, balance uint64) state {
	st := state{nonces: map[api.Digest]uint64{}}
	var l []api.Pair
	for who, n := range nonces {
		st.nonces[key(who)] = n
		if n != 0 || balance != 0 {
			v := binary.BigEndian.AppendUint64(nil, n)
			l = append(l, api.Pair{Key: key(who), Value: binary.BigEndian.AppendUint64(v, balance)})
		}
	}
	slices.SortFunc(l, func(a, b api.Pair) int { return bytes.Compare(a.Key[:], b.Key[:]) })
	st.tree.Root = plant(&st.tree, l, 0)
	return st
}

func plant(t *api.Tree, l []api.Pair, d int) int {
	switch len(l) {
	case 0:
		return 0
	case 1:
		t.Nodes = append(t.Nodes, api.Node{Leaf: true, Key: l[0].Key, Value: l[0].Value})
		return len(t.Nodes)
	}
	cut := 0
	for cut < len(l) && l[cut].Key[d/8]&(128>>(d%8)) == 0 {
		cut++
	}
	left, right := plant(t, l[:cut], d+1), plant(t, l[cut:], d+1)
	t.Nodes = append(t.Nodes, api.Node{Left: left, Right: right})
	return len(t.Nodes)
}

// Of these people in order.
func stateWith(nonces ...uint64) state {
	all := map[int]uint64{}
	for who, n := range nonces {
		all[who] = n
	}
	return stateOf(all, 9)
}

// By the chapter's words.

func mayBe(s api.Shard) bool {
	for i, own := range s.Lines {
		if len(own.Txs) == 0 || len(own.Txs) > 256 {
			return false
		}
		if i > 0 && bytes.Compare(s.Lines[i-1].From[:], own.From[:]) >= 0 {
			return false
		}
		for j, x := range own.Txs {
			if !isSigned(x) || keyOf(x.Pub) != own.From || j > 0 && own.Txs[j-1].Nonce >= x.Nonce {
				return false
			}
		}
	}
	return true
}

func placeOf(l []api.Tx, pub api.Digest, nonce uint64) int {
	return slices.IndexFunc(l, func(y api.Tx) bool { return y.Pub == pub && y.Nonce == nonce })
}

func manyOf(l []api.Tx, pub api.Digest) int {
	many := 0
	for _, x := range l {
		if x.Pub == pub {
			many++
		}
	}
	return many
}

// Of those that stand in order.
func whoGoes(l []api.Tx, x api.Tx) int {
	least := -1
	for i, own := range l {
		isLast := i == len(l)-1 || l[i+1].Pub != own.Pub
		if isLast && own.Pub != x.Pub && (least < 0 || own.Fee < l[least].Fee) {
			least = i
		}
	}
	if least >= 0 && l[least].Fee >= x.Fee {
		return -1
	}
	return least
}

func whenSubmitted(s api.Shard, cap int, nonce uint64, x api.Tx) (out api.Shard, gone []api.Tx, e api.Errno) {
	switch {
	case !mayBe(s):
		return out, nil, api.ErrBad
	case !isSigned(x):
		return out, nil, api.ErrSign
	case x.Nonce < nonce:
		return out, nil, api.ErrStale
	case x.Nonce == greatest || x.Nonce-nonce > 15:
		return out, nil, api.ErrFar
	}
	l := flat(s)
	if i := placeOf(l, x.Pub, x.Nonce); i >= 0 {
		old := l[i]
		if x.Fee <= old.Fee {
			return out, nil, api.ErrFee
		}
		l[i] = x
		return shardOf(l...), []api.Tx{old}, api.OK
	}
	if manyOf(l, x.Pub) >= 256 {
		return out, nil, api.ErrFull
	}
	if len(l) >= cap {
		i := whoGoes(l, x)
		if i < 0 {
			return out, nil, api.ErrFull
		}
		gone = []api.Tx{l[i]}
		l = slices.Delete(l, i, i+1)
	}
	return shardOf(append(l, x)...), gone, api.OK
}

func whenDrawn(s api.Shard, st state, room int) (out api.Shard, drawn []api.Tx, e api.Errno) {
	if !mayBe(s) {
		return out, nil, api.ErrBad
	}
	var left []api.Tx
	for _, own := range s.Lines {
		next, ready := st.nonces[own.From], true
		for _, x := range own.Txs {
			if x.Nonce < st.nonces[own.From] {
				continue
			}
			if ready = ready && x.Nonce == next && len(drawn) < room; ready {
				drawn = append(drawn, x)
				next++
			} else {
				left = append(left, x)
			}
		}
	}
	return shardOf(left...), drawn, api.OK
}

func whenBack(s api.Shard, st state, l []api.Tx) (api.Shard, api.Errno) {
	if !mayBe(s) {
		return api.Shard{}, api.ErrBad
	}
	if slices.ContainsFunc(l, func(x api.Tx) bool { return !isSigned(x) }) {
		return api.Shard{}, api.ErrSign
	}
	all := flat(s)
	for _, x := range l {
		i := placeOf(all, x.Pub, x.Nonce)
		switch {
		case x.Nonce < st.nonces[keyOf(x.Pub)]:
		case i < 0:
			all = append(all, x)
		case x.Fee > all[i].Fee:
			all[i] = x
		}
	}
	for _, x := range all {
		if manyOf(all, x.Pub) > 256 {
			return api.Shard{}, api.ErrFull
		}
	}
	return shardOf(all...), api.OK
}

// What is told beside an error is nothing.

func wantSubmit(t *testing.T, what string, s api.Shard, cap int, nonce uint64, x api.Tx) (api.Shard, []api.Tx, api.Errno) {
	t.Helper()
	want, wantGone, wantE := whenSubmitted(s, cap, nonce, x)
	out, gone, e := shard.Submit(s, cap, nonce, x)
	if e != wantE || !alike(out, want) || !slices.Equal(gone, wantGone) {
		t.Errorf("%s (%s), cap %d, nonce %d: Submit of %s: error %d, %s, gone %s, want error %d, %s, gone %s", what, brief(s), cap, nonce,
			briefTxs([]api.Tx{x}), e, brief(out), briefTxs(gone), wantE, brief(want), briefTxs(wantGone))
	}
	return out, gone, e
}

func wantDraw(t *testing.T, what string, s api.Shard, st state, room int) (api.Shard, []api.Tx) {
	t.Helper()
	want, wantDrawn, wantE := whenDrawn(s, st, room)
	out, drawn, e := shard.Draw(s, st.tree, room)
	if e != wantE || !alike(out, want) || !slices.Equal(drawn, wantDrawn) {
		t.Errorf("%s (%s), room %d: Draw: error %d, %s, drawn %s, want error %d, %s, drawn %s", what, brief(s), room,
			e, brief(out), briefTxs(drawn), wantE, brief(want), briefTxs(wantDrawn))
	}
	return out, drawn
}

func wantBack(t *testing.T, what string, s api.Shard, st state, l []api.Tx) api.Shard {
	t.Helper()
	want, wantE := whenBack(s, st, l)
	out, e := shard.Back(s, st.tree, l)
	if e != wantE || !alike(out, want) {
		t.Errorf("%s (%s): Back of %s: error %d, %s, want error %d, %s", what, brief(s), briefTxs(l), e, brief(out), wantE, brief(want))
	}
	return out
}

func wantError(t *testing.T, what string, want api.Errno, s api.Shard, cap int, nonce uint64, x api.Tx) {
	t.Helper()
	if _, _, e := wantSubmit(t, what, s, cap, nonce, x); e != want {
		t.Errorf("%s: Submit of %s: error %d, want error %d", what, briefTxs([]api.Tx{x}), e, want)
	}
}

func just(fee uint64) func(int) uint64 {
	return func(int) uint64 { return fee }
}

// Small shards that may be.
func smallShards() map[string]api.Shard {
	return map[string]api.Shard{
		"the zero one": {}, "of no lines": {Lines: []api.Line{}},
		"the chapter's": shardOf(pay(3, 0, 5), pay(3, 1, 5)),
		"one":           shardOf(pay(4, 0, 5)), "one of nonce 1": shardOf(pay(4, 1, 5)), "one of fee 0": shardOf(pay(4, 0, 0)),
		"one of the greatest fee": shardOf(pay(4, 0, greatest)), "one of the greatest nonce": shardOf(pay(4, greatest, 5)),
		"two":                  shardOf(pay(2, 0, 5), pay(4, 0, 5)),
		"the first one's less": shardOf(pay(2, 0, 4), pay(4, 0, 5)), "the second one's less": shardOf(pay(2, 0, 5), pay(4, 0, 4)),
		"three, the second one's least": shardOf(pay(2, 0, 6), pay(4, 0, 4), pay(6, 0, 5)),
		"three, two of the least":       shardOf(pay(2, 0, 6), pay(4, 0, 4), pay(6, 0, 4)),
		"three, the last one's least":   shardOf(pay(2, 0, 6), pay(4, 0, 5), pay(6, 0, 4)),
		"lesser ones not last":          shardOf(pay(2, 0, 1), pay(2, 1, 7), pay(4, 0, 2), pay(4, 1, 6), pay(6, 0, 3), pay(6, 5, 6)),
		"lesser ones last":              shardOf(pay(2, 0, 9), pay(2, 1, 4), pay(4, 0, 9), pay(4, 2, 3), pay(6, 0, 9), pay(6, 9, 3)),
		"gaps":                          shardOf(pay(2, 0, 5), pay(2, 2, 5), pay(2, 3, 5), pay(4, 1, 5), pay(4, 2, 5), pay(6, 3, 5)),
		"runs":                          shardOf(slices.Concat(run(2, 0, 4, 5), run(4, 2, 3, 6), run(6, 1, 2, 4))...),
		"the greatest nonces":           shardOf(slices.Concat(run(2, greatest-3, 4, 5), run(4, greatest-1, 2, 6), run(4, 0, 2, 6))...),
		"eight":                         shardOf(oneEach(8, just(5))...),
		"nobody's Pub":                  shardOf(signed(api.Tx{}), signed(api.Tx{Nonce: 1, Fee: 7})),
	}
}

func soundShards() map[string]api.Shard {
	all := smallShards()
	for what, s := range map[string]api.Shard{
		"64":               shardOf(oneEach(64, func(who int) uint64 { return uint64(50 - who/2) })...),
		"200":              shardOf(oneEach(200, func(who int) uint64 { return uint64(7 + who%5) })...),
		"8 of 8":           shardOf(slices.Concat(run(0, 0, 8, 3), run(1, 1, 8, 2), run(2, 2, 8, 9), run(3, 0, 8, 9), run(4, 9, 8, 2), run(5, 0, 8, 4), run(6, 0, 8, 5), run(7, 5, 8, 2))...),
		"255":              shardOf(run(4, 0, 255, 5)...),
		"256":              shardOf(run(4, 0, 256, 5)...),
		"256 at the end":   shardOf(run(4, greatest-255, 256, 5)...),
		"two of 256":       shardOf(slices.Concat(run(2, 0, 256, 5), run(4, 3, 256, 4))...),
		"256, and one two": shardOf(slices.Concat(run(2, 0, 256, 5), run(4, 0, 2, 4))...),
	} {
		all[what] = s
	}
	return all
}

// Shards that may not be.
func wrongShards() map[string]api.Shard {
	three := shardOf(pay(2, 0, 5), pay(2, 1, 5), pay(4, 0, 5), pay(4, 7, 5), pay(6, 3, 5), pay(6, 4, 5))
	own := three.Lines
	all := map[string]api.Shard{
		"an empty line": {Lines: make([]api.Line, 1)}, "someone's empty line": {Lines: []api.Line{{From: key(4)}}},
		"empty lines":      {Lines: []api.Line{{From: key(2)}, {From: key(4)}}},
		"two the same":     {Lines: []api.Line{own[0], own[0]}},
		"the other way":    {Lines: []api.Line{own[2], own[1], own[0]}},
		"the first behind": {Lines: []api.Line{own[1], own[0], own[2]}}, "the last ahead": {Lines: []api.Line{own[0], own[2], own[1]}},
		"one in two lines":  {Lines: []api.Line{{From: key(2), Txs: run(2, 0, 2, 5)}, {From: key(2), Txs: run(2, 2, 2, 5)}}},
		"the last twice":    {Lines: []api.Line{own[0], own[1], own[2], own[2]}},
		"the first again":   {Lines: []api.Line{own[0], own[1], own[2], own[0]}},
		"one of 257":        shardOf(run(4, 0, 257, 5)...),
		"the last of 257":   shardOf(append(run(6, 0, 257, 5), flat(three)[:4]...)...),
		"one nonce twice":   {Lines: []api.Line{{From: key(2), Txs: []api.Tx{pay(2, 3, 4), pay(2, 3, 5)}}}},
		"nonces turned":     {Lines: []api.Line{{From: key(2), Txs: []api.Tx{pay(2, 4, 4), pay(2, 3, 5)}}}},
		"a zero one":        {Lines: []api.Line{{Txs: make([]api.Tx, 1)}}},
		"2^12 empty lines":  {Lines: make([]api.Line, 1<<12)},
		"a Pub for a key":   {Lines: []api.Line{{From: people[2], Txs: run(2, 0, 2, 5)}}},
		"another one's txs": {Lines: []api.Line{{From: key(2), Txs: run(4, 0, 2, 5)}}},
	}
	for i := range own {
		at := func(what string, f func(l *api.Line)) {
			all[fmt.Sprint("of three at ", i, ": ", what)] = with(three, func(s *api.Shard) { f(&s.Lines[i]) })
		}
		at("none", func(l *api.Line) { l.Txs = nil })
		at("empty, not nil", func(l *api.Line) { l.Txs = l.Txs[:0] })
		at("no From", func(l *api.Line) { l.From = api.Digest{} })
		at("the nonces turned", func(l *api.Line) { slices.Reverse(l.Txs) })
		at("a zero line", func(l *api.Line) { *l = api.Line{} })
		at("another one's", func(l *api.Line) { l.Txs[1] = pay(9, 20, 5) })
		for j := range 2 {
			at("no Sign", func(l *api.Line) { l.Txs[j].Sign = api.Digest{} })
			at("another Fee", func(l *api.Line) { l.Txs[j].Fee++ })
			at("the Sign, bit 255", func(l *api.Line) { l.Txs[j].Sign = turned(l.Txs[j].Sign, 255) })
		}
		for bit := range 256 {
			at(fmt.Sprint("bit ", bit, " of From"), func(l *api.Line) { l.From = turned(l.From, bit) })
		}
	}
	each := shardOf(oneEach(200, just(5))...)
	for i := range 199 {
		all[fmt.Sprint("of 200 turned at ", i)] = with(each, func(s *api.Shard) { s.Lines[i], s.Lines[i+1] = s.Lines[i+1], s.Lines[i] })
		all[fmt.Sprint("of 200 twice at ", i)] = with(each, func(s *api.Shard) { s.Lines[i+1] = s.Lines[i] })
	}
	return all
}

// Trees that are no states.
func wrongStates() map[string]api.Tree {
	leaf := func(v ...byte) api.Tree {
		return api.Tree{Nodes: []api.Node{{Leaf: true, Key: key(4), Value: v}}, Root: 1}
	}
	return map[string]api.Tree{
		"no account's value": leaf(1), "15 bytes": leaf(bytes.Repeat([]byte{1}, 15)...), "17 bytes": leaf(bytes.Repeat([]byte{1}, 17)...),
		"a zero account": leaf(make([]byte, 16)...), "no value": leaf(),
		"a root that is not": {Root: 1}, "a root below 0": {Root: -1}, "a fork of nothing": {Nodes: make([]api.Node, 1)},
		"a fork of one": {Nodes: append(stateWith(1).tree.Nodes, api.Node{Left: 1}), Root: 2},
		"too many":      {Nodes: make([]api.Node, 1<<18+1)},
	}
}

// The chapter's examples.

func TestExamples(t *testing.T) {
	ann, bob := run(3, 0, 2, 5), func(fee uint64) api.Tx { return pay(1, 0, fee) }
	s := shardOf(ann...)
	if out, gone, e := shard.Submit(s, 2, 0, bob(5)); e != api.ErrFull || !alike(out, api.Shard{}) || len(gone) != 0 {
		t.Errorf("the other one's with fee 5: error %d, %s, gone %s", e, brief(out), briefTxs(gone))
	}
	out, gone, e := shard.Submit(s, 2, 0, bob(6))
	if e != api.OK || !alike(out, shardOf(ann[0], bob(6))) || !slices.Equal(gone, ann[1:]) {
		t.Errorf("the other one's with fee 6: error %d, %s, gone %s", e, brief(out), briefTxs(gone))
	}
	if _, _, e := shard.Submit(s, 2, 0, pay(3, 16, 9)); e != api.ErrFar {
		t.Errorf("nonce 16, the account's 0: error %d", e)
	}
	if _, _, e := shard.Submit(s, 2, 1, pay(3, 0, 9)); e != api.ErrStale {
		t.Errorf("nonce 0, the account's 1: error %d", e)
	}
	for _, st := range []state{{}, stateWith(), stateWith(0, 0, 0, 0)} {
		out, drawn, e := shard.Draw(s, st.tree, 1)
		if e != api.OK || !alike(out, shardOf(ann[1])) || !slices.Equal(drawn, ann[:1]) {
			t.Errorf("Draw, room 1: error %d, %s, drawn %s", e, brief(out), briefTxs(drawn))
		}
		out, drawn, e = shard.Draw(s, st.tree, 9)
		if e != api.OK || !alike(out, api.Shard{}) || !slices.Equal(drawn, ann) {
			t.Errorf("Draw, room 9: error %d, %s, drawn %s", e, brief(out), briefTxs(drawn))
		}
	}
}

// P20.1.

func TestCheck(t *testing.T) {
	for what, s := range soundShards() {
		if e := shard.Check(s); e != api.OK || !mayBe(s) {
			t.Errorf("%s: Check: error %d", what, e)
		}
	}
	for what, s := range wrongShards() {
		if e := shard.Check(s); e != api.ErrBad || mayBe(s) {
			t.Errorf("%s: Check: error %d", what, e)
		}
	}
}

func everyone() map[string]api.Shard {
	all := soundShards()
	for what, s := range wrongShards() {
		all[what] = s
	}
	return all
}

func TestCountAndTwin(t *testing.T) {
	for what, s := range everyone() {
		if n := shard.Count(s); n != len(flat(s)) {
			t.Errorf("%s: Count: %d, want %d", what, n, len(flat(s)))
		}
		if got := shard.Twin(s); !alike(got, s) {
			t.Errorf("%s: Twin: %s", what, brief(got))
		}
	}
}

func TestSame(t *testing.T) {
	others := []api.Shard{{}, shardOf(pay(4, 0, 5)), shardOf(pay(2, 0, 5), pay(4, 0, 5)), shardOf(oneEach(8, just(5))...), {Lines: make([]api.Line, 3)}}
	for what, s := range everyone() {
		if !shard.Same(s, s) || !shard.Same(s, copied(s)) || !shard.Same(copied(s), s) {
			t.Errorf("%s: it is not the same as itself", what)
		}
		for _, other := range others {
			if want := alike(s, other); shard.Same(s, other) != want || shard.Same(other, s) != want {
				t.Errorf("%s, and %s: Same is not %v", what, brief(other), want)
			}
		}
	}
}

func TestOneFieldIsAnother(t *testing.T) {
	s := shardOf(slices.Concat(run(2, 0, 2, 5), run(4, 0, 3, 5), run(6, 0, 1, 5))...)
	changes := map[string]func(s *api.Shard){
		"none ahead":       func(s *api.Shard) { s.Lines = s.Lines[1:] },
		"none behind":      func(s *api.Shard) { s.Lines = s.Lines[:2] },
		"an empty one":     func(s *api.Shard) { s.Lines = append(s.Lines, api.Line{}) },
		"a line twice":     func(s *api.Shard) { s.Lines = append(s.Lines, s.Lines[2]) },
		"two turned":       func(s *api.Shard) { s.Lines[0], s.Lines[1] = s.Lines[1], s.Lines[0] },
		"none at all":      func(s *api.Shard) { s.Lines = nil },
		"one moved over":   func(s *api.Shard) { s.Lines[0].Txs, s.Lines[1].Txs = flat(*s)[:3], flat(*s)[3:5] },
		"all in one":       func(s *api.Shard) { s.Lines[0].Txs, s.Lines = flat(*s), s.Lines[:1] },
		"lines of no txs":  func(s *api.Shard) { *s = api.Shard{Lines: make([]api.Line, 3)} },
		"the second empty": func(s *api.Shard) { s.Lines[1].Txs = nil },
	}
	for i := range 3 {
		last := len(s.Lines[i].Txs) - 1
		for bit := range 256 {
			changes[fmt.Sprint("From of ", i, ", bit ", bit)] = func(s *api.Shard) { s.Lines[i].From = turned(s.Lines[i].From, bit) }
			changes[fmt.Sprint("Sign of ", i, ", bit ", bit)] = func(s *api.Shard) {
				s.Lines[i].Txs[last].Sign = turned(s.Lines[i].Txs[last].Sign, bit)
			}
		}
		changes[fmt.Sprint("Fee of ", i)] = func(s *api.Shard) { s.Lines[i].Txs[0].Fee++ }
		changes[fmt.Sprint("Nonce of ", i)] = func(s *api.Shard) { s.Lines[i].Txs[last].Nonce ^= 1 << 63 }
		changes[fmt.Sprint("less of ", i)] = func(s *api.Shard) { s.Lines[i].Txs = s.Lines[i].Txs[:last] }
		changes[fmt.Sprint("more of ", i)] = func(s *api.Shard) { s.Lines[i].Txs = append(s.Lines[i].Txs, api.Tx{}) }
	}
	for what, f := range changes {
		if other := with(s, f); shard.Same(s, other) || shard.Same(other, s) {
			t.Errorf("%s: Same", what)
		}
	}
}

func TestEmptyListsAreTheSame(t *testing.T) {
	a, b := api.Shard{}, api.Shard{Lines: []api.Line{}}
	if !shard.Same(a, b) || !shard.Same(b, a) {
		t.Error("Same of nil and empty: false")
	}
	a, b = api.Shard{Lines: []api.Line{{}}}, api.Shard{Lines: []api.Line{{Txs: []api.Tx{}}}}
	if !shard.Same(a, b) || !shard.Same(b, a) {
		t.Error("Same of lines of nil and of empty: false")
	}
	none := state{tree: api.Tree{Nodes: []api.Node{}}}
	for _, s := range []api.Shard{{}, {Lines: []api.Line{}}} {
		for _, l := range [][]api.Tx{nil, {}} {
			wantBack(t, "empty", s, state{}, l)
			wantBack(t, "empty", s, none, l)
		}
		wantDraw(t, "empty", s, state{}, 9)
		wantDraw(t, "empty", s, none, 9)
		wantError(t, "empty", api.OK, s, 1, 0, pay(4, 0, 0))
	}
}

// P20.2.

func TestSubmit(t *testing.T) {
	for what, s := range smallShards() {
		many := len(flat(s))
		caps := []int{math.MinInt, -1, 0, 1, 2, many - 1, many, many + 1, 64, math.MaxInt}
		for _, who := range []int{0, 2, 3, 4, 5, 6, 199} {
			for _, n := range []uint64{0, 1, 2, 9, 15, 16, 20, greatest - 1, greatest} {
				for _, fee := range []uint64{0, 4, 5, 6, 7, greatest} {
					x := pay(who, n, fee)
					for _, cap := range caps {
						wantSubmit(t, what, s, cap, n&^15, x)
					}
					for _, nonce := range []uint64{0, 1, n} {
						wantSubmit(t, what, s, many, nonce, x)
					}
				}
			}
		}
	}
}

func TestSubmitToManyLines(t *testing.T) {
	for what, s := range soundShards() {
		many := len(flat(s))
		if many < 64 {
			continue
		}
		for _, who := range []int{0, 1, 2, 4, 31, 63, 64, 65, 199} {
			for _, fee := range []uint64{0, 3, 6, 60} {
				wantSubmit(t, what, s, 64, 0, pay(who, 0, fee))
				wantSubmit(t, what, s, many, 0, pay(who, 9, fee))
				wantSubmit(t, what, s, many+1, 250, pay(who, 257, fee))
			}
		}
	}
}

// In place of its own nonce it goes however full the shard is, and nobody else goes.
func TestSubmitInAPlace(t *testing.T) {
	for _, s := range []api.Shard{
		shardOf(append(run(4, 0, 3, 5), pay(2, 0, 0), pay(6, 0, 0))...), shardOf(append(run(4, 0, 256, 5), pay(2, 0, 0))...),
	} {
		for _, n := range []uint64{0, 1, 2} {
			for _, cap := range []int{math.MinInt, 0, 1, len(flat(s)) - 1, len(flat(s)), 999} {
				for fee, want := range map[uint64]api.Errno{0: api.ErrFee, 4: api.ErrFee, 5: api.ErrFee, 6: api.OK, greatest: api.OK} {
					out, gone, e := wantSubmit(t, "in a place", s, cap, n, pay(4, n, fee))
					if e != want || e == api.OK && (!slices.Equal(gone, []api.Tx{pay(4, n, 5)}) || shard.Count(out) != shard.Count(s)) {
						t.Errorf("fee %d, cap %d: error %d, %s, gone %s", fee, cap, e, brief(out), briefTxs(gone))
					}
				}
			}
		}
	}
}

func TestStaleAndFar(t *testing.T) {
	for _, c := range []struct {
		account, own uint64
		want         api.Errno
	}{
		{0, 0, api.OK}, {0, 15, api.OK}, {0, 16, api.ErrFar}, {0, 17, api.ErrFar}, {0, 1 << 63, api.ErrFar}, {0, greatest - 1, api.ErrFar}, {0, greatest, api.ErrFar},
		{1, 0, api.ErrStale}, {1, 1, api.OK}, {1, 16, api.OK}, {1, 17, api.ErrFar}, {9, 8, api.ErrStale}, {9, 9, api.OK}, {9, 24, api.OK}, {9, 25, api.ErrFar},
		{1 << 32, 0, api.ErrStale}, {1 << 32, 1<<32 + 15, api.OK}, {1 << 32, 1<<32 + 16, api.ErrFar}, {1 << 32, 1 << 33, api.ErrFar}, {5, 1<<32 + 5, api.ErrFar},
		{1<<63 - 1, 1 << 63, api.OK}, {1 << 63, 1<<63 - 1, api.ErrStale}, {1<<63 - 8, 1<<63 + 8, api.ErrFar}, {1<<63 - 8, 1<<63 + 7, api.OK}, {1 << 63, 3, api.ErrStale},
		{greatest - 16, greatest - 1, api.OK}, {greatest - 16, greatest, api.ErrFar}, {greatest - 15, greatest - 1, api.OK}, {greatest - 15, greatest, api.ErrFar},
		{greatest - 1, greatest - 1, api.OK}, {greatest - 1, greatest, api.ErrFar}, {greatest - 1, 0, api.ErrStale}, {greatest - 1, 5, api.ErrStale}, {greatest - 1, greatest - 2, api.ErrStale},
		{greatest, greatest, api.ErrFar}, {greatest, greatest - 1, api.ErrStale}, {greatest, 0, api.ErrStale}, {greatest, 14, api.ErrStale},
	} {
		for _, s := range []api.Shard{{}, shardOf(pay(2, 3, 5), pay(4, 100, 5), pay(6, 3, 5))} {
			wantError(t, fmt.Sprint("the account's ", c.account, ", its own ", c.own), c.want, s, 64, c.account, pay(4, c.own, 9))
		}
	}
}

func TestWhoGoes(t *testing.T) {
	for what, c := range map[string]struct {
		own  []api.Tx
		x    api.Tx
		goes []api.Tx // none: the shard is full
	}{
		"no greater fee":                    {oneEach(3, just(5)), pay(9, 0, 5), nil},
		"a lesser fee":                      {oneEach(3, just(5)), pay(9, 0, 4), nil},
		"the first one's of several":        {oneEach(3, just(5)), pay(9, 0, 6), []api.Tx{pay(0, 0, 5)}},
		"the first one's, but the sender's": {oneEach(3, just(5)), pay(0, 1, 6), []api.Tx{pay(1, 0, 5)}},
		"the least":                         {[]api.Tx{pay(0, 0, 5), pay(1, 0, 3), pay(2, 0, 4)}, pay(9, 0, 6), []api.Tx{pay(1, 0, 3)}},
		"the least, at the end":             {[]api.Tx{pay(0, 0, 5), pay(1, 0, 4), pay(2, 0, 3)}, pay(9, 0, 4), []api.Tx{pay(2, 0, 3)}},
		"the least, at the start":           {[]api.Tx{pay(0, 0, 3), pay(1, 0, 4), pay(2, 0, 5)}, pay(9, 0, 9), []api.Tx{pay(0, 0, 3)}},
		"the least is the sender's":         {[]api.Tx{pay(0, 0, 5), pay(1, 0, 0), pay(2, 0, 4)}, pay(1, 1, 6), []api.Tx{pay(2, 0, 4)}},
		"only the sender's is less":         {[]api.Tx{pay(0, 0, 6), pay(1, 0, 0), pay(2, 0, 7)}, pay(1, 1, 6), nil},
		"the last of a line":                {append(run(0, 0, 3, 5), pay(1, 0, 6)), pay(9, 0, 6), []api.Tx{pay(0, 2, 5)}},
		"a lesser one is not last":          {[]api.Tx{pay(0, 0, 1), pay(0, 1, 5), pay(1, 0, 4)}, pay(9, 0, 6), []api.Tx{pay(1, 0, 4)}},
		"lesser ones, none last":            {[]api.Tx{pay(0, 0, 1), pay(0, 1, 6), pay(1, 0, 2), pay(1, 8, 7)}, pay(9, 0, 6), nil},
		"the greatest fee is there":         {oneEach(2, just(greatest)), pay(9, 0, greatest), nil},
		"next to the greatest fee":          {oneEach(2, just(greatest-1)), pay(9, 0, greatest), []api.Tx{pay(0, 0, greatest-1)}},
		"of fee 0":                          {oneEach(2, just(0)), pay(9, 0, 0), nil},
		"of fee 0, for 1":                   {oneEach(2, just(0)), pay(9, 0, 1), []api.Tx{pay(0, 0, 0)}},
		"none but the sender's":             {run(4, 0, 3, 0), pay(4, 3, 9), nil},
		"none but the sender's, amid":       {[]api.Tx{pay(4, 0, 0), pay(4, 9, 0)}, pay(4, 5, 9), nil},
		"the other Pub of the same To":      {[]api.Tx{pay(4, 0, 0), pay(5, 0, 0)}, pay(5, 1, 9), []api.Tx{pay(4, 0, 0)}},
		"fees of the top bit":               {[]api.Tx{pay(0, 0, 1<<63), pay(1, 0, 1<<63-1)}, pay(9, 0, 1<<63), []api.Tx{pay(1, 0, 1<<63-1)}},
	} {
		s := shardOf(c.own...)
		want := api.OK
		if len(c.goes) == 0 {
			want = api.ErrFull
		}
		for _, cap := range []int{len(c.own), len(c.own) - 1, 0, -7, math.MinInt} {
			if _, gone, e := wantSubmit(t, what, s, cap, 0, c.x); e != want || !slices.Equal(gone, c.goes) {
				t.Errorf("%s: cap %d: error %d, gone %s, want error %d, gone %s", what, cap, e, briefTxs(gone), want, briefTxs(c.goes))
			}
		}
		for _, cap := range []int{len(c.own) + 1, math.MaxInt} {
			if _, gone, e := wantSubmit(t, what, s, cap, 0, c.x); e != api.OK || len(gone) != 0 {
				t.Errorf("%s: cap %d: error %d, gone %s", what, cap, e, briefTxs(gone))
			}
		}
	}
}

// Whose last one goes has no line any more, and wherever the sender's stands.
func TestALineThatIsEmptyThenGoes(t *testing.T) {
	for goes := range 12 {
		for who := range 12 {
			if who == goes {
				continue
			}
			l := slices.DeleteFunc(oneEach(12, just(9)), func(x api.Tx) bool { return x.Pub == people[goes] || x.Pub == people[who] })
			least, x := pay(goes, 0, 3), pay(who, 0, 4)
			out, gone, e := shard.Submit(shardOf(append(l, least)...), 11, 0, x)
			if e != api.OK || !alike(out, shardOf(append(l, x)...)) || len(out.Lines) != 11 || !slices.Equal(gone, []api.Tx{least}) {
				t.Errorf("%d goes for %d: error %d, %s, gone %s", goes, who, e, brief(out), briefTxs(gone))
			}
		}
	}
}

func TestALineOf256IsFull(t *testing.T) {
	for _, others := range [][]api.Tx{nil, {pay(2, 0, 0)}, {pay(2, 0, 0), pay(6, 0, 0)}} {
		full := shardOf(append(run(4, 0, 256, 5), others...)...)
		for _, cap := range []int{0, 64, 256, len(flat(full)), 999, math.MaxInt} {
			wantError(t, "256", api.ErrFull, full, cap, 256, pay(4, 256, greatest))
			wantError(t, "256, one that it has", api.OK, full, cap, 255, pay(4, 255, 6))
			wantError(t, "256, one that it has", api.ErrFee, full, cap, 255, pay(4, 255, 5))
		}
		wantError(t, "256, another one's", api.OK, full, 999, 0, pay(3, 0, 0))
		less := shardOf(append(run(4, 0, 255, 5), others...)...)
		wantError(t, "255", api.OK, less, 999, 250, pay(4, 255, 0))
	}
}

func wrongTxs() map[string]api.Tx {
	all := map[string]api.Tx{"all zero": {}}
	change := func(what string, f func(x *api.Tx)) {
		x := pay(4, 3, 9)
		f(&x)
		all[what] = x
	}
	change("no Sign", func(x *api.Tx) { x.Sign = api.Digest{} })
	change("another one's Sign", func(x *api.Tx) { x.Sign = pay(4, 4, 9).Sign })
	change("the Sign of another kind", func(x *api.Tx) { x.Sign = digested(5, x.Pub[:]) })
	change("another Pub", func(x *api.Tx) { x.Pub = people[5] })
	change("another To", func(x *api.Tx) { x.To = people[5] })
	change("another Amount", func(x *api.Tx) { x.Amount++ })
	change("another Fee", func(x *api.Tx) { x.Fee++ })
	change("another Nonce", func(x *api.Tx) { x.Nonce++ })
	for bit := range 256 {
		change(fmt.Sprint("the Sign, bit ", bit), func(x *api.Tx) { x.Sign = turned(x.Sign, bit) })
	}
	return all
}

func TestSubmitOfWhatIsNotSigned(t *testing.T) {
	for what, x := range wrongTxs() {
		for _, s := range []api.Shard{{}, shardOf(pay(2, 0, 5), pay(4, 3, 5))} {
			wantError(t, what, api.ErrSign, s, 64, 0, x)
		}
	}
}

func TestSubmitToWhatMayNotBe(t *testing.T) {
	for what, s := range wrongShards() {
		wantError(t, what, api.ErrBad, s, 64, 0, pay(4, 9, 9))
	}
}

// Which error is told, where several apply.
func TestOrderOfSubmitsErrors(t *testing.T) {
	full := shardOf(append(run(4, 0, 256, 5), pay(2, 0, 9))...)
	bad := with(full, func(s *api.Shard) { s.Lines[0].Txs[0].Fee++ })
	unsigned := func(nonce uint64) api.Tx {
		x := pay(4, nonce, 0)
		x.Sign = api.Digest{}
		return x
	}
	wantError(t, "bad, not signed, stale", api.ErrBad, bad, 0, 9, unsigned(3))
	wantError(t, "bad, not signed, far", api.ErrBad, bad, 0, 0, unsigned(99))
	wantError(t, "bad, stale, no greater fee", api.ErrBad, bad, 0, 9, pay(4, 3, 0))
	wantError(t, "bad, far", api.ErrBad, bad, 0, 0, pay(4, 300, 0))
	wantError(t, "bad, no greater fee", api.ErrBad, bad, 0, 0, pay(4, 3, 0))
	wantError(t, "bad, full", api.ErrBad, bad, 0, 256, pay(4, 256, 0))
	wantError(t, "not signed, stale", api.ErrSign, full, 0, 9, unsigned(3))
	wantError(t, "not signed, far", api.ErrSign, full, 0, 0, unsigned(300))
	wantError(t, "not signed, the greatest", api.ErrSign, full, 0, 0, unsigned(greatest))
	wantError(t, "not signed, no greater fee", api.ErrSign, full, 0, 0, unsigned(3))
	wantError(t, "not signed, full", api.ErrSign, full, 0, 256, unsigned(256))
	wantError(t, "stale, no greater fee", api.ErrStale, full, 0, 9, pay(4, 3, 0))
	wantError(t, "stale, full", api.ErrStale, full, 0, 9, pay(3, 3, 0))
	wantError(t, "far, no greater fee", api.ErrFar, full, 0, 0, pay(4, 99, 0))
	wantError(t, "far, full", api.ErrFar, full, 0, 0, pay(3, 99, 0))
	wantError(t, "the greatest, full", api.ErrFar, full, 0, greatest, pay(3, greatest, 0))
	wantError(t, "no greater fee, full", api.ErrFee, full, 0, 0, pay(4, 3, 5))
	wantError(t, "full both ways", api.ErrFull, full, 0, 256, pay(4, 256, 0))
	wantError(t, "full", api.ErrFull, full, 257, 0, pay(3, 0, 5))
}

// P20.3.

// States about the nonces of a shard.
func statesFor(s api.Shard) []state {
	all := []state{{}, stateOf(nil, 0)}
	for _, turn := range []func(first, last uint64) uint64{
		func(_, _ uint64) uint64 { return 0 }, func(_, _ uint64) uint64 { return 1 }, func(_, _ uint64) uint64 { return greatest },
		func(first, _ uint64) uint64 { return first }, func(first, _ uint64) uint64 { return first + 1 },
		func(first, _ uint64) uint64 { return first - 1 }, func(first, last uint64) uint64 { return first + (last-first)/2 },
		func(_, last uint64) uint64 { return last }, func(_, last uint64) uint64 { return last + 1 },
	} {
		nonces, other := map[int]uint64{150: 3}, map[int]uint64{}
		for i, own := range s.Lines {
			who := slices.Index(people, own.Txs[0].Pub)
			if who < 0 {
				continue
			}
			nonces[who] = turn(own.Txs[0].Nonce, own.Txs[len(own.Txs)-1].Nonce)
			if i%2 == 0 {
				other[who] = nonces[who]
			}
		}
		all = append(all, stateOf(nonces, 0), stateOf(nonces, 9), stateOf(other, 9))
	}
	return all
}

func TestDraw(t *testing.T) {
	for what, s := range soundShards() {
		many := len(flat(s))
		rooms := []int{math.MinInt, -1, 0, 1, 2, 3, 16, many - 1, many, math.MaxInt}
		if many < 16 {
			for room := range many + 2 {
				rooms = append(rooms, room)
			}
		}
		for _, st := range statesFor(s) {
			for _, room := range rooms {
				wantDraw(t, what, s, st, room)
			}
		}
	}
}

// What is past goes, also if nothing is drawn.
func TestDrawWithoutRoom(t *testing.T) {
	s := shardOf(slices.Concat(run(2, 0, 3, 5), run(4, 0, 2, 5), run(6, 5, 2, 5))...)
	for _, room := range []int{0, -1, math.MinInt} {
		out, drawn := wantDraw(t, "no room", s, stateOf(map[int]uint64{2: 2, 4: 2, 6: 1}, 1), room)
		if len(drawn) != 0 || !alike(out, shardOf(append(run(6, 5, 2, 5), pay(2, 2, 5))...)) {
			t.Errorf("room %d: %s, drawn %s", room, brief(out), briefTxs(drawn))
		}
	}
}

func TestDrawLineByLine(t *testing.T) {
	s := shardOf(slices.Concat(run(2, 0, 3, 1), run(4, 7, 3, 9), run(6, 1, 3, 5))...)
	st := stateOf(map[int]uint64{2: 1, 4: 7, 6: 1}, 0)
	want := slices.Concat(run(2, 1, 2, 1), run(4, 7, 3, 9), run(6, 1, 3, 5))
	for room := range 10 {
		out, drawn := wantDraw(t, "line by line", s, st, room)
		n := min(room, len(want))
		if !slices.Equal(drawn, want[:n]) || !alike(out, shardOf(want[n:]...)) {
			t.Errorf("room %d: %s, drawn %s", room, brief(out), briefTxs(drawn))
		}
	}
}

// Behind the greatest nonce there is none.
func TestDrawOfTheGreatestNonce(t *testing.T) {
	s := shardOf(pay(4, 0, 5), pay(4, 1, 5), pay(4, greatest-1, 5), pay(4, greatest, 5))
	for nonce, want := range map[uint64][]uint64{
		0: {0, 1}, 1: {1}, 2: nil, greatest - 2: nil, greatest - 1: {greatest - 1, greatest}, greatest: {greatest},
	} {
		_, drawn := wantDraw(t, "the greatest", s, stateOf(map[int]uint64{4: nonce}, 1), 9)
		var got []uint64
		for _, x := range drawn {
			got = append(got, x.Nonce)
		}
		if !slices.Equal(got, want) {
			t.Errorf("from %d: %v, want %v", nonce, got, want)
		}
	}
}

func TestDrawInWhatIsNoState(t *testing.T) {
	for what, tree := range wrongStates() {
		for _, s := range []api.Shard{{}, shardOf(pay(2, 0, 5)), shardOf(pay(2, 0, 5), pay(4, 0, 5))} {
			if out, drawn, e := shard.Draw(s, tree, 9); e != api.ErrBad || !alike(out, api.Shard{}) || len(drawn) != 0 {
				t.Errorf("%s: Draw: error %d, %s, drawn %s", what, e, brief(out), briefTxs(drawn))
			}
			for _, l := range [][]api.Tx{nil, {pay(2, 0, 5)}, {pay(4, 0, 5)}, {{}}} {
				if out, e := shard.Back(s, tree, l); e != api.ErrBad || !alike(out, api.Shard{}) {
					t.Errorf("%s: Back: error %d, %s", what, e, brief(out))
				}
			}
		}
	}
}

func TestDrawOfWhatMayNotBe(t *testing.T) {
	for what, s := range wrongShards() {
		for _, st := range []state{{}, stateOf(map[int]uint64{2: 1, 4: 1}, 1)} {
			wantDraw(t, what, s, st, 9)
			wantDraw(t, what, s, st, 0)
			wantBack(t, what, s, st, nil)
			wantBack(t, what, s, st, []api.Tx{pay(4, 0, 5)})
			wantBack(t, what, s, st, []api.Tx{{}})
		}
	}
}

func TestBack(t *testing.T) {
	var one []api.Tx
	for _, who := range []int{0, 2, 3, 4, 6, 199} {
		for _, n := range []uint64{0, 1, 2, 5, 16, 40, greatest} {
			for _, fee := range []uint64{0, 5, 6, greatest} {
				one = append(one, signed(api.Tx{Pub: people[who], To: hashed(5), Nonce: n, Fee: fee}))
			}
		}
	}
	random := rand.New(rand.NewSource(1))
	for what, s := range smallShards() {
		for _, st := range statesFor(s) {
			wantBack(t, what, s, st, nil)
			wantBack(t, what, s, st, one)
			wantBack(t, what, s, st, flat(s))
			for range 4 {
				wantBack(t, what, s, st, []api.Tx{one[random.Intn(len(one))]})
				var l []api.Tx
				for range random.Intn(30) {
					l = append(l, one[random.Intn(len(one))])
				}
				wantBack(t, what, s, st, l)
			}
		}
	}
}

func TestBackByFee(t *testing.T) {
	fees := []uint64{0, 1, 255, 256, 1<<32 - 1, 1 << 32, 1<<63 - 1, 1 << 63, greatest - 1, greatest}
	at := func(fee uint64, to int) api.Tx {
		return signed(api.Tx{Pub: people[4], To: hashed(to), Nonce: 3, Fee: fee})
	}
	for _, own := range fees {
		for _, fee := range fees {
			want := at(own, 1)
			if fee > own {
				want = at(fee, 2)
			}
			for _, c := range []struct {
				s api.Shard
				l []api.Tx
			}{{shardOf(at(own, 1)), []api.Tx{at(fee, 2)}}, {api.Shard{}, []api.Tx{at(own, 1), at(fee, 2)}}} {
				if out := wantBack(t, "by fee", c.s, stateOf(map[int]uint64{4: 3}, 1), c.l); !alike(out, shardOf(want)) {
					t.Errorf("own fee %d, fee %d: %s", own, fee, brief(out))
				}
			}
		}
	}
}

// However many there are: no room is asked for; but 256 a line.
func TestBackOfMany(t *testing.T) {
	for what, c := range map[string]struct {
		s    api.Shard
		st   state
		l    []api.Tx
		want api.Errno
	}{
		"200 senders":                {api.Shard{}, state{}, oneEach(200, just(5)), api.OK},
		"200 to 200":                 {shardOf(oneEach(200, just(5))...), state{}, oneEach(200, just(6)), api.OK},
		"255 to one":                 {shardOf(pay(4, 300, 5)), state{}, run(4, 0, 255, 5), api.OK},
		"256 to none":                {api.Shard{}, state{}, run(4, 0, 256, 5), api.OK},
		"256 to one":                 {shardOf(pay(4, 300, 5)), state{}, run(4, 0, 256, 5), api.ErrFull},
		"257 to none":                {api.Shard{}, state{}, run(4, 0, 257, 5), api.ErrFull},
		"257, one past":              {api.Shard{}, stateOf(map[int]uint64{4: 1}, 0), run(4, 0, 257, 5), api.OK},
		"257, one twice":             {api.Shard{}, state{}, append(run(4, 0, 256, 5), pay(4, 9, 6)), api.OK},
		"one to 256":                 {shardOf(run(4, 0, 256, 5)...), state{}, []api.Tx{pay(4, 256, 5)}, api.ErrFull},
		"one to 256, past":           {shardOf(run(4, 9, 256, 5)...), stateOf(map[int]uint64{4: 9}, 0), []api.Tx{pay(4, 8, 5)}, api.OK},
		"to 256 that are past":       {shardOf(run(4, 0, 256, 5)...), stateOf(map[int]uint64{4: 256}, 0), []api.Tx{pay(4, 256, 5)}, api.ErrFull},
		"one to 256, that it has":    {shardOf(run(4, 0, 256, 5)...), state{}, []api.Tx{pay(4, 9, 6), pay(4, 0, 5), pay(4, 255, 9)}, api.OK},
		"another one to 256":         {shardOf(run(4, 0, 256, 5)...), state{}, []api.Tx{pay(5, 256, 5)}, api.OK},
		"full, then another one":     {shardOf(run(4, 0, 256, 5)...), state{}, []api.Tx{pay(4, 256, 5), pay(5, 0, 5)}, api.ErrFull},
		"another one, then full":     {shardOf(run(4, 0, 256, 5)...), state{}, []api.Tx{pay(5, 0, 5), pay(4, 256, 5)}, api.ErrFull},
		"the one ahead is full":      {shardOf(append(run(2, 0, 256, 5), pay(4, 0, 5))...), state{}, run(4, 0, 99, 6), api.OK},
		"the same 300 times":         {api.Shard{}, state{}, slices.Repeat([]api.Tx{pay(4, 7, 5)}, 300), api.OK},
		"the greatest nonce":         {api.Shard{}, state{}, []api.Tx{pay(4, greatest, 5)}, api.OK},
		"the greatest nonce, at it":  {api.Shard{}, stateOf(map[int]uint64{4: greatest}, 0), []api.Tx{pay(4, greatest, 5), pay(4, greatest-1, 5)}, api.OK},
		"300, all past":              {api.Shard{}, stateOf(map[int]uint64{4: 300}, 0), run(4, 0, 300, 5), api.OK},
		"far ahead of the account's": {api.Shard{}, state{}, []api.Tx{pay(4, 16, 5), pay(4, 1<<40, 5)}, api.OK},
	} {
		if _, e := shard.Back(c.s, c.st.tree, c.l); e != c.want {
			t.Errorf("%s: Back: error %d, want error %d", what, e, c.want)
		}
		wantBack(t, what, c.s, c.st, c.l)
	}
}

func TestBackOfWhatIsNotSigned(t *testing.T) {
	past := stateOf(map[int]uint64{0: 9, 4: 9}, 1)
	for what, x := range wrongTxs() {
		for _, s := range []api.Shard{{}, shardOf(pay(2, 0, 5), pay(4, 3, 5)), shardOf(run(4, 0, 256, 5)...)} {
			for _, l := range [][]api.Tx{{x}, {x, pay(2, 0, 9)}, {pay(2, 0, 9), x}, {pay(4, 256, 9), pay(4, 257, 9), x}} {
				for _, st := range []state{{}, past} {
					if out, e := shard.Back(s, st.tree, l); e != api.ErrSign || !alike(out, api.Shard{}) {
						t.Errorf("%s: Back of %s: error %d, %s", what, briefTxs(l), e, brief(out))
					}
				}
			}
		}
	}
}

// P20.4.

// What stands behind a list's end is its caller's: neither read nor changed.
func roomyTxs(l []api.Tx) []api.Tx {
	out := append(make([]api.Tx, 0, len(l)+3), l...)
	next := pay(7, 1, 99)
	if len(l) > 0 {
		next = l[len(l)-1]
	}
	for i := len(out); i < cap(out); i++ {
		next.Nonce++
		out[:cap(out)][i] = signed(next)
	}
	return out
}

func roomy(s api.Shard) api.Shard {
	lines := append(make([]api.Line, 0, len(s.Lines)+2), s.Lines...)
	for i := range lines {
		lines[i].Txs = roomyTxs(lines[i].Txs)
	}
	for i := len(lines); i < cap(lines); i++ {
		lines[:cap(lines)][i] = api.Line{From: key(190 + i - len(lines)), Txs: roomyTxs(run(190+i-len(lines), 0, 2, 1))}
	}
	return api.Shard{Lines: lines}
}

func wholly(s api.Shard) api.Shard {
	lines := slices.Clone(s.Lines[:cap(s.Lines)])
	for i := range lines {
		lines[i].Txs = slices.Clone(lines[i].Txs[:cap(lines[i].Txs)])
	}
	return api.Shard{Lines: lines}
}

// Also what an append to it would write to.
func overwriteTxs(l []api.Tx) {
	l = l[:cap(l)]
	for i := range l {
		l[i] = api.Tx{Pub: hashed(99), Nonce: 99}
	}
}

func overwrite(s api.Shard) {
	for _, own := range s.Lines {
		overwriteTxs(own.Txs)
	}
	lines := s.Lines[:cap(s.Lines)]
	for i := range lines {
		lines[i] = api.Line{From: hashed(98)}
	}
}

func copiedTree(t api.Tree) api.Tree {
	nodes := slices.Clone(t.Nodes)
	for i := range nodes {
		nodes[i].Value = bytes.Clone(nodes[i].Value)
	}
	return api.Tree{Nodes: nodes, Root: t.Root}
}

func alikeTrees(a, b api.Tree) bool {
	return a.Root == b.Root && slices.EqualFunc(a.Nodes, b.Nodes, func(x, y api.Node) bool {
		return x.Leaf == y.Leaf && x.Key == y.Key && bytes.Equal(x.Value, y.Value) && x.Left == y.Left && x.Right == y.Right
	})
}

// What one call is handed, and answers.
type input struct {
	s    api.Shard
	tree api.Tree
	l    []api.Tx
}

type answer struct {
	s api.Shard
	l []api.Tx
}

func (a answer) is(b answer) bool {
	return alike(a.s, b.s) && slices.Equal(a.l, b.l)
}

func (a answer) copied() answer {
	return answer{copied(a.s), slices.Clone(a.l)}
}

// All lists of transactions in it.
func (a answer) lists() [][]api.Tx {
	all := [][]api.Tx{a.l}
	for _, own := range a.s.Lines {
		all = append(all, own.Txs)
	}
	return all
}

func calls() map[string]func(in input) answer {
	all := map[string]func(in input) answer{
		"Back": func(in input) answer {
			out, _ := shard.Back(in.s, in.tree, in.l)
			return answer{s: out}
		},
		"Twin": func(in input) answer { return answer{s: shard.Twin(in.s)} },
		"Check, Count, and Same": func(in input) answer {
			shard.Check(in.s)
			shard.Count(in.s)
			shard.Same(in.s, in.s)
			return answer{}
		},
	}
	for _, cap := range []int{0, 64, 999} {
		for _, x := range []api.Tx{pay(4, 0, 9), pay(4, 15, 9), pay(3, 0, 9), pay(0, 1, 9), pay(199, 1, 9), pay(4, 0, 0)} {
			all[fmt.Sprint("Submit, cap ", cap, " of ", briefTxs([]api.Tx{x}))] = func(in input) answer {
				out, gone, _ := shard.Submit(in.s, cap, 0, x)
				return answer{out, gone}
			}
		}
		all[fmt.Sprint("Draw, room ", cap)] = func(in input) answer {
			out, drawn, _ := shard.Draw(in.s, in.tree, cap)
			return answer{out, drawn}
		}
	}
	all["Draw, room 1"] = func(in input) answer {
		out, drawn, _ := shard.Draw(in.s, in.tree, 1)
		return answer{out, drawn}
	}
	return all
}

func everyCall(t *testing.T, f func(what string, fresh func() input, call func(in input) answer)) {
	t.Helper()
	shards := map[string]api.Shard{"one twice": wrongShards()["two the same"], "with an empty line": wrongShards()["someone's empty line"]}
	for what, s := range smallShards() {
		shards[what] = s
	}
	backs := [][]api.Tx{nil, {pay(4, 3, 9)}, {pay(4, 0, 0), pay(2, 9, 9), pay(7, 0, 9), pay(4, 8, 1), pay(4, 8, 2)}}
	trees := []api.Tree{{}, stateWith(1, 1, 1, 1, 1, 1, 1).tree, stateWith(0, 0, 2, 0, 0).tree}
	for name, s := range shards {
		for i, l := range backs {
			fresh := func() input { return input{copied(s), copiedTree(trees[i]), slices.Clone(l)} }
			for what, call := range calls() {
				f(fmt.Sprint(what, " of ", name, ", ", i), fresh, call)
			}
		}
	}
}

func inRoom(in input) input {
	return input{roomy(in.s), in.tree, roomyTxs(in.l)}
}

func TestWhatIsHandedInStays(t *testing.T) {
	everyCall(t, func(what string, fresh func() input, call func(in input) answer) {
		in := inRoom(fresh())
		before, tree, l := wholly(in.s), copiedTree(in.tree), slices.Clone(in.l[:cap(in.l)])
		a := call(in)
		overwrite(a.s)
		overwriteTxs(a.l)
		if !alike(wholly(in.s), before) || !alikeTrees(in.tree, tree) || !slices.Equal(in.l[:cap(in.l)], l) {
			t.Errorf("%s: what was handed in is changed", what)
		}
	})
}

func TestWhatIsBehindTheEndIsNotRead(t *testing.T) {
	everyCall(t, func(what string, fresh func() input, call func(in input) answer) {
		if !call(inRoom(fresh())).is(call(fresh())) {
			t.Errorf("%s: with room behind it is answered otherwise", what)
		}
	})
}

func TestWhatIsAnsweredIsNewMemory(t *testing.T) {
	everyCall(t, func(what string, fresh func() input, call func(in input) answer) {
		in := inRoom(fresh())
		got, want := call(in), call(fresh())
		overwrite(in.s)
		overwriteTxs(in.l)
		if !got.is(want) {
			t.Errorf("%s: it shares memory with what was handed in", what)
		}
	})
}

func TestListsThatAreAnsweredAreEachTheirOwn(t *testing.T) {
	everyCall(t, func(what string, fresh func() input, call func(in input) answer) {
		want := call(fresh()).copied().lists()
		for i := range want {
			got := call(fresh()).lists()
			overwriteTxs(got[i])
			for j := range want {
				if j != i && !slices.Equal(got[j], want[j]) {
					t.Errorf("%s: the lists %d and %d share memory", what, i, j)
				}
			}
		}
		if again := call(fresh()).lists(); !slices.EqualFunc(again, want, slices.Equal) {
			t.Errorf("%s: asked again it is another one", what)
		}
	})
}

// P20.5.

// The accounts of some people, that go up by what is drawn, and down by what goes back.
func TestAWalk(t *testing.T) {
	for seed := range int64(8) {
		random := rand.New(rand.NewSource(seed))
		most := 1 + random.Intn(20)
		var s api.Shard
		nonces := map[int]uint64{}
		var blocks [][]api.Tx
		for range 300 {
			st := stateOf(nonces, 1)
			switch random.Intn(12) {
			default:
				who := random.Intn(9)
				x := pay(who, nonces[who]+uint64(random.Intn(6)), uint64(random.Intn(8)))
				ahead := shard.Count(s)
				out, gone, e := wantSubmit(t, "a walk", s, most, nonces[who], x)
				if e == api.OK {
					s = out
				}
				if many := shard.Count(s); many > max(most, ahead) || e == api.OK && many != ahead+1-len(gone) {
					t.Fatalf("cap %d: %d are %d behind a submit", most, ahead, many)
				}
			case 0, 1:
				out, drawn := wantDraw(t, "a walk", s, st, random.Intn(8))
				wantRuns(t, drawn, st)
				wantNonePast(t, out, st)
				s = out
				blocks = append(blocks, drawn)
				for _, x := range drawn {
					nonces[slices.Index(people, x.Pub)]++
				}
			case 2:
				if len(blocks) == 0 {
					continue
				}
				l := blocks[len(blocks)-1]
				blocks = blocks[:len(blocks)-1]
				for _, x := range l {
					nonces[slices.Index(people, x.Pub)]--
				}
				if random.Intn(2) == 0 {
					l = append(l, pay(random.Intn(9), uint64(random.Intn(9)), uint64(random.Intn(9))))
				}
				st = stateOf(nonces, 1)
				s = wantBack(t, "a walk", s, st, l)
				wantThere(t, s, st, l)
			}
			if e := shard.Check(s); e != api.OK {
				t.Fatalf("a walk: Check: error %d", e)
			}
		}
	}
}

func wantRuns(t *testing.T, drawn []api.Tx, st state) {
	t.Helper()
	next := map[api.Digest]uint64{}
	for _, x := range drawn {
		from := keyOf(x.Pub)
		if _, met := next[from]; !met {
			next[from] = st.nonces[from]
		}
		if x.Nonce != next[from] {
			t.Fatalf("drawn is the nonce %d, not %d", x.Nonce, next[from])
		}
		next[from]++
	}
}

func wantNonePast(t *testing.T, s api.Shard, st state) {
	t.Helper()
	for _, x := range flat(s) {
		if x.Nonce < st.nonces[keyOf(x.Pub)] {
			t.Fatalf("the nonce %d is left, and past", x.Nonce)
		}
	}
}

// Each is there, or a better one, or it is past.
func wantThere(t *testing.T, s api.Shard, st state, l []api.Tx) {
	t.Helper()
	all := flat(s)
	for _, x := range l {
		i := placeOf(all, x.Pub, x.Nonce)
		if x.Nonce >= st.nonces[keyOf(x.Pub)] && (i < 0 || all[i] != x && all[i].Fee < x.Fee) {
			t.Fatalf("the nonce %d is lost on its way back", x.Nonce)
		}
	}
}

// P1.

func randomChange(random *rand.Rand, s *api.Shard) {
	if len(s.Lines) == 0 {
		s.Lines = append(s.Lines, api.Line{From: key(random.Intn(9))})
		return
	}
	i := random.Intn(len(s.Lines))
	own := &s.Lines[i]
	n := []uint64{0, 1, 2, 3, greatest, random.Uint64()}[random.Intn(6)]
	switch random.Intn(9) {
	case 0:
		own.From = []api.Digest{key(1), key(5), people[2], {}}[random.Intn(4)]
	case 1, 2:
		own.Txs = append(own.Txs, pay(random.Intn(9), n, n))
	case 3:
		own.Txs = nil
	case 4:
		s.Lines = append(s.Lines, *own)
	case 5:
		s.Lines = slices.Delete(s.Lines, i, i+1)
	case 6, 7:
		*s = shardOf(flat(*s)...)
	case 8:
		own.Txs = append(own.Txs, api.Tx{Pub: people[3], Nonce: n})
	}
}

func TestWhateverIsHandedIn(t *testing.T) {
	random := rand.New(rand.NewSource(3))
	starts := []api.Shard{{}, shardOf(oneEach(5, just(5))...), shardOf(run(4, 0, 5, 5)...), shardOf(append(run(2, 3, 5, 5), run(4, 0, 3, 4)...)...)}
	for range 1500 {
		s := copied(starts[random.Intn(len(starts))])
		for range random.Intn(5) {
			randomChange(random, &s)
		}
		want := api.ErrBad
		if mayBe(s) {
			want = api.OK
		}
		if e := shard.Check(s); e != want {
			t.Errorf("Check of %s: error %d, want error %d", brief(s), e, want)
		}
		st := stateWith(0, 1, 2, 3, 0, greatest, random.Uint64())
		n := []uint64{0, 3, greatest, random.Uint64()}[random.Intn(4)]
		x := pay(random.Intn(9), n+uint64(random.Intn(20))-2, random.Uint64())
		wantSubmit(t, "whatever", s, random.Intn(9)-1, n, x)
		wantSubmit(t, "whatever", s, random.Intn(9)-1, n, api.Tx{})
		wantDraw(t, "whatever", s, st, random.Intn(9)-1)
		wantBack(t, "whatever", s, st, append(flat(s), x))
	}
}
