package queue_test

import (
	"crypto/sha256"
	"encoding/binary"
	"fmt"
	"math"
	"math/rand"
	"slices"
	"testing"

	"beadroll/api"
	"beadroll/queue"
)

const greatest = math.MaxUint64

func hashed(i int) api.Digest {
	return sha256.Sum256([]byte(fmt.Sprint("queue ", i)))
}

func turned(d api.Digest, i int) api.Digest {
	d[i/8] ^= 128 >> (i % 8)
	return d
}

// By the library, and not by tx or what it stands on, so that a fault there shows.
func digested(kind uint8, part []byte) api.Digest {
	b := binary.BigEndian.AppendUint32([]byte{kind}, uint32(len(part)))
	return sha256.Sum256(append(b, part...))
}

func signOf(x api.Tx) api.Digest {
	b := slices.Concat(x.Pub[:], x.To[:])
	for _, n := range []uint64{x.Nonce, x.Amount, x.Fee} {
		b = binary.BigEndian.AppendUint64(b, n)
	}
	return digested(4, b)
}

func signed(x api.Tx) api.Tx {
	x.Sign = signOf(x)
	return x
}

func senderOf(x api.Tx) api.Digest {
	return digested(3, x.Pub[:])
}

var (
	annPub = hashed(1)
	ann    = digested(3, annPub[:])
	bobPub = hashed(2)
	bob    = digested(3, bobPub[:])
)

// One of ann's.
func paying(nonce, fee uint64) api.Tx {
	return signed(api.Tx{Pub: annPub, To: bob, Nonce: nonce, Amount: 5, Fee: fee})
}

// Each transaction of it has the fee 7, but for those that a test puts.
const usual = 7

// Ann's line of these nonces.
func line(nonces ...uint64) api.Line {
	l := api.Line{From: ann}
	for _, n := range nonces {
		l.Txs = append(l.Txs, paying(n, usual))
	}
	return l
}

// So many nonces, from the first one on, each so much more than the one ahead.
func nonces(first, step uint64, many int) []uint64 {
	var l []uint64
	for i := range uint64(many) {
		l = append(l, first+i*step)
	}
	return l
}

func copied(l api.Line) api.Line {
	l.Txs = slices.Clone(l.Txs)
	return l
}

func with(l api.Line, changes ...func(l *api.Line)) api.Line {
	out := copied(l)
	for _, f := range changes {
		f(&out)
	}
	return out
}

func at(i int, f func(x *api.Tx)) func(l *api.Line) {
	return func(l *api.Line) { f(&l.Txs[i]) }
}

// The same, signed again.
func signedAt(i int, f func(x *api.Tx)) func(l *api.Line) {
	return at(i, func(x *api.Tx) {
		f(x)
		x.Sign = signOf(*x)
	})
}

func alike(a, b api.Line) bool {
	return a.From == b.From && slices.Equal(a.Txs, b.Txs)
}

func noncesOf(l []api.Tx) []uint64 {
	var all []uint64
	for _, x := range l {
		all = append(all, x.Nonce)
	}
	return all
}

func brief(l []api.Tx) string {
	var s string
	for _, x := range l[:min(len(l), 8)] {
		s += fmt.Sprint(" ", x.Nonce, "/", x.Fee)
	}
	return fmt.Sprint(len(l), " of them:", s)
}

// By the chapter's words.

func mayBe(l api.Line) bool {
	if len(l.Txs) > 256 {
		return false
	}
	for i, x := range l.Txs {
		if x.Sign != signOf(x) || senderOf(x) != l.From {
			return false
		}
		if i+1 < len(l.Txs) && x.Nonce >= l.Txs[i+1].Nonce {
			return false
		}
	}
	return true
}

func of(l api.Line, nonce uint64) (x api.Tx, has bool) {
	for _, x := range l.Txs {
		if x.Nonce == nonce {
			return x, true
		}
	}
	return api.Tx{}, false
}

func sorted(l api.Line) api.Line {
	slices.SortFunc(l.Txs, func(x, y api.Tx) int {
		if x.Nonce < y.Nonce {
			return -1
		}
		return 1
	})
	return l
}

func whenPut(l api.Line, x api.Tx) (out api.Line, old []api.Tx, e api.Errno) {
	if !mayBe(l) {
		return api.Line{}, nil, api.ErrBad
	}
	if x.Sign != signOf(x) || senderOf(x) != l.From {
		return api.Line{}, nil, api.ErrArg
	}
	own, has := of(l, x.Nonce)
	if has && x.Fee <= own.Fee {
		return api.Line{}, nil, api.ErrFee
	}
	if !has && len(l.Txs) >= 256 {
		return api.Line{}, nil, api.ErrFull
	}
	out = copied(l)
	if has {
		old = []api.Tx{own}
		out.Txs = slices.DeleteFunc(out.Txs, func(y api.Tx) bool { return y == own })
	}
	out.Txs = append(out.Txs, x)
	return sorted(out), old, api.OK
}

func whenReady(l api.Line, nonce uint64) (ready []api.Tx, e api.Errno) {
	if !mayBe(l) {
		return nil, api.ErrBad
	}
	for {
		x, has := of(l, nonce)
		if !has {
			return ready, api.OK
		}
		ready = append(ready, x)
		if nonce == greatest {
			return ready, api.OK
		}
		nonce++
	}
}

func whenPast(l api.Line, nonce uint64) (out api.Line, gone []api.Tx, e api.Errno) {
	if !mayBe(l) {
		return api.Line{}, nil, api.ErrBad
	}
	out = api.Line{From: l.From}
	for _, x := range l.Txs {
		if x.Nonce < nonce {
			gone = append(gone, x)
		} else {
			out.Txs = append(out.Txs, x)
		}
	}
	return out, gone, api.OK
}

// What is told beside an error is nothing.
func wantPut(t *testing.T, what string, l api.Line, x api.Tx) (api.Line, api.Errno) {
	t.Helper()
	want, wantOld, wantE := whenPut(l, x)
	out, old, e := queue.Put(l, x)
	if e != wantE || !alike(out, want) || !slices.Equal(old, wantOld) {
		t.Errorf("%s: Put of %d/%d: error %d, %s, old %s, want error %d, %s, old %s",
			what, x.Nonce, x.Fee, e, brief(out.Txs), brief(old), wantE, brief(want.Txs), brief(wantOld))
	}
	if e == api.OK && queue.Check(out) != api.OK {
		t.Errorf("%s: Put of %d/%d: what is answered may not be: %s", what, x.Nonce, x.Fee, brief(out.Txs))
	}
	return out, e
}

func wantReady(t *testing.T, what string, l api.Line, nonce uint64) {
	t.Helper()
	want, wantE := whenReady(l, nonce)
	if ready, e := queue.Ready(l, nonce); e != wantE || !slices.Equal(ready, want) {
		t.Errorf("%s: Ready from %d: error %d, %s, want error %d, %s", what, nonce, e, brief(ready), wantE, brief(want))
	}
}

func wantPast(t *testing.T, what string, l api.Line, nonce uint64) api.Line {
	t.Helper()
	want, wantGone, wantE := whenPast(l, nonce)
	out, gone, e := queue.Past(l, nonce)
	if e != wantE || !alike(out, want) || !slices.Equal(gone, wantGone) {
		t.Errorf("%s: Past %d: error %d, %s, gone %s, want error %d, %s, gone %s",
			what, nonce, e, brief(out.Txs), brief(gone), wantE, brief(want.Txs), brief(wantGone))
	}
	if e == api.OK && queue.Check(out) != api.OK {
		t.Errorf("%s: Past %d: what is answered may not be: %s", what, nonce, brief(out.Txs))
	}
	return out
}

func wantError(t *testing.T, what string, want api.Errno, l api.Line, x api.Tx) {
	t.Helper()
	if _, e := wantPut(t, what, l, x); e != want {
		t.Errorf("%s: Put of %d/%d: error %d, want error %d", what, x.Nonce, x.Fee, e, want)
	}
}

// Nonces about those of a line, and at the ends.
func nearBy(l api.Line) []uint64 {
	all := []uint64{0, 1, 2, 1 << 32, math.MaxInt64, 1 << 63, greatest - 1, greatest}
	for i, x := range l.Txs {
		if i < 12 || i > len(l.Txs)-4 {
			all = append(all, x.Nonce-1, x.Nonce, x.Nonce+1)
		}
	}
	return all
}

// Lines that may be.
func soundLines() map[string]api.Line {
	all := map[string]api.Line{
		"the zero one": {}, "nobody's, empty": {Txs: []api.Tx{}}, "ann's, empty": line(), "the chapter's": line(3, 4, 6),
		"0": line(0), "1": line(1), "the greatest": line(greatest), "0 and 1": line(0, 1), "0 and the greatest": line(0, greatest),
		"both ends": line(0, 1, 2, greatest-1, greatest), "about 2^63": line(1<<63-1, 1<<63, 1<<63+1),
		"about 2^32": line(1<<32-2, 1<<32-1, 1<<32, 1<<32+1), "two runs": line(5, 6, 7, 9, 10, 11), "each second one": line(nonces(2, 2, 9)...),
		"255": line(nonces(0, 1, 255)...), "256": line(nonces(0, 1, 256)...), "256 up to the greatest": line(nonces(greatest-255, 1, 256)...),
		"256, far apart": line(nonces(9, 1<<56, 256)...), "256, and two runs": line(append(nonces(7, 1, 128), nonces(200, 1, 128)...)...),
		"whose Pub is noughts": {From: digested(3, make([]byte, 32)), Txs: []api.Tx{signed(api.Tx{}), signed(api.Tx{Nonce: 3})}},
		"of many kinds": {From: ann, Txs: []api.Tx{
			signed(api.Tx{Pub: annPub, Nonce: 8}), signed(api.Tx{Pub: annPub, To: ann, Nonce: 9, Amount: greatest, Fee: greatest}),
			signed(api.Tx{Pub: annPub, To: annPub, Nonce: 10, Fee: 3}), paying(11, greatest-1), paying(20, 0),
		}},
	}
	for n := range uint64(20) {
		all[fmt.Sprint("as many as ", n)] = line(nonces(n*n, 1, int(n))...)
	}
	return all
}

// What is wrong with one of a line's transactions.
func wrongTxs() map[string]func(x *api.Tx) {
	all := map[string]func(x *api.Tx){
		"no Sign": func(x *api.Tx) { x.Sign = api.Digest{} }, "another one's Sign": func(x *api.Tx) { x.Sign = paying(77, 0).Sign },
		"the Sign of another kind": func(x *api.Tx) { x.Sign = digested(5, x.Pub[:]) }, "all zero": func(x *api.Tx) { *x = api.Tx{} },
		"another Amount": func(x *api.Tx) { x.Amount++ }, "another Fee": func(x *api.Tx) { x.Fee++ },
		"another To": func(x *api.Tx) { x.To = ann }, "another Pub": func(x *api.Tx) { x.Pub = bobPub },
		"bob's":                func(x *api.Tx) { *x = signed(api.Tx{Pub: bobPub, To: x.To, Nonce: x.Nonce, Amount: 5, Fee: usual}) },
		"the sender's own key": func(x *api.Tx) { *x = signed(api.Tx{Pub: ann, To: x.To, Nonce: x.Nonce, Amount: 5, Fee: usual}) },
	}
	for _, i := range []int{0, 7, 128, 255} {
		all[fmt.Sprint("the Sign, bit ", i, " turned")] = func(x *api.Tx) { x.Sign = turned(x.Sign, i) }
		all[fmt.Sprint("the Pub, bit ", i, " turned, signed")] = func(x *api.Tx) {
			x.Pub = turned(x.Pub, i)
			*x = signed(*x)
		}
	}
	return all
}

// Lines that may not be.
func wrongLines() map[string]api.Line {
	all := map[string]api.Line{
		"nobody's": {Txs: line(3).Txs}, "bob's": {From: bob, Txs: line(3, 4, 6).Txs}, "its Pub's": {From: annPub, Txs: line(3).Txs},
		"one that is all zero": {Txs: make([]api.Tx, 1)}, "256 that are all zero": {Txs: make([]api.Tx, 256)},
		"257": line(nonces(0, 1, 257)...), "258": line(nonces(9, 3, 258)...), "1000": line(nonces(0, 1, 1000)...),
		"257, far apart": line(nonces(0, 1<<55, 257)...), "2^16 that are all zero": {Txs: make([]api.Tx, 1<<16)},
		"one twice": line(3, 3), "one twice at the end": line(3, 4, 6, 6), "one twice at the start": line(3, 3, 4, 6),
		"the other way round": line(6, 4, 3), "two the other way round": line(3, 6, 4), "the first ones the other way round": line(4, 3, 6),
		"0 behind the greatest": line(greatest, 0), "0 behind the greatest, in a run": line(greatest-1, greatest, 0, 1),
		"one twice, of another fee": {From: ann, Txs: []api.Tx{paying(3, 1), paying(3, 2)}}, "2^63 behind 0, then 1": line(0, 1<<63, 1),
	}
	for i := range 256 {
		all[fmt.Sprint("bit ", i, " of From turned")] = api.Line{From: turned(ann, i), Txs: line(3, 4, 6).Txs}
	}
	for what, f := range wrongTxs() {
		for _, many := range []int{1, 2, 3, 256} {
			for _, i := range []int{0, many / 2, many - 1} {
				all[fmt.Sprint("at ", i, " of ", many, " ", what)] = with(line(nonces(3, 1, many)...), at(i, f))
			}
		}
	}
	for _, i := range []int{0, 1, 100, 254} {
		all[fmt.Sprint("256, that at ", i, " as the next one")] = with(line(nonces(3, 1, 256)...), signedAt(i, func(x *api.Tx) { x.Nonce++ }))
		all[fmt.Sprint("256, that behind ", i, " as it")] = with(line(nonces(3, 1, 256)...), signedAt(i+1, func(x *api.Tx) { x.Nonce-- }))
	}
	return all
}

// The chapter's examples.

func TestExamples(t *testing.T) {
	l := line(3, 4, 6)
	for from, want := range map[uint64][]uint64{3: {3, 4}, 4: {4}, 5: nil} {
		if ready, e := queue.Ready(l, from); e != api.OK || !slices.Equal(noncesOf(ready), want) {
			t.Errorf("Ready from %d: error %d, %s", from, e, brief(ready))
		}
	}
	out, gone, e := queue.Past(l, 4)
	if e != api.OK || !slices.Equal(noncesOf(out.Txs), []uint64{4, 6}) || !slices.Equal(noncesOf(gone), []uint64{3}) {
		t.Errorf("Past 4: error %d, %s, gone %s", e, brief(out.Txs), brief(gone))
	}
	if out, old, e := queue.Put(l, paying(4, usual)); e != api.ErrFee || !alike(out, api.Line{}) || len(old) != 0 {
		t.Errorf("Put of 4 with the same fee: error %d, %s, old %s", e, brief(out.Txs), brief(old))
	}
	out, old, e := queue.Put(l, paying(4, usual+1))
	if e != api.OK || !slices.Equal(out.Txs, []api.Tx{paying(3, usual), paying(4, usual+1), paying(6, usual)}) ||
		!slices.Equal(old, []api.Tx{paying(4, usual)}) {
		t.Errorf("Put of 4 with a greater fee: error %d, %s, old %s", e, brief(out.Txs), brief(old))
	}
	other := signed(api.Tx{Pub: bobPub, Nonce: 5})
	if out, old, e := queue.Put(l, other); e != api.ErrArg || !alike(out, api.Line{}) || len(old) != 0 {
		t.Errorf("Put of another sender's: error %d, %s, old %s", e, brief(out.Txs), brief(old))
	}
}

// P19.1: Check.

func TestSoundLines(t *testing.T) {
	for what, l := range soundLines() {
		if e := queue.Check(l); e != api.OK {
			t.Errorf("%s: error %d", what, e)
		}
	}
}

// Each call of a line that may not be tells ErrBad, and nothing beside.
func TestWrongLines(t *testing.T) {
	for what, l := range wrongLines() {
		if e := queue.Check(l); e != api.ErrBad {
			t.Errorf("%s: error %d", what, e)
		}
		wantError(t, what, api.ErrBad, l, paying(5, 9))
		wantReady(t, what, l, 3)
		wantPast(t, what, l, 3)
	}
}

// P19.1: Same, Twin.

// Of any lines.
func everyone() map[string]api.Line {
	all := soundLines()
	for what, l := range wrongLines() {
		all["wrong: "+what] = l
	}
	return all
}

func TestTwin(t *testing.T) {
	for what, l := range everyone() {
		if got := queue.Twin(l); !alike(got, l) {
			t.Errorf("%s: Twin: %s", what, brief(got.Txs))
		}
	}
}

func TestSame(t *testing.T) {
	all := everyone()
	for what, l := range all {
		if !queue.Same(l, l) || !queue.Same(l, copied(l)) || !queue.Same(copied(l), l) {
			t.Errorf("%s: it is not the same as itself", what)
		}
		for _, other := range []api.Line{{}, line(), line(3, 4, 6), line(3, 4), line(nonces(0, 1, 256)...), {From: ann, Txs: make([]api.Tx, 3)}} {
			if want := alike(l, other); queue.Same(l, other) != want || queue.Same(other, l) != want {
				t.Errorf("%s, and %s: Same is not %v", what, brief(other.Txs), want)
			}
		}
	}
}

// Each bit of each field counts, of each transaction.
func TestOneFieldIsAnother(t *testing.T) {
	changes := map[string]func(l *api.Line){
		"none ahead":  func(l *api.Line) { l.Txs = l.Txs[1:] },
		"none behind": func(l *api.Line) { l.Txs = l.Txs[:2] },
		"one more":    func(l *api.Line) { l.Txs = append(l.Txs, paying(9, usual)) },
		"a zero more": func(l *api.Line) { l.Txs = append(l.Txs, api.Tx{}) },
		"two turned":  func(l *api.Line) { l.Txs[0], l.Txs[1] = l.Txs[1], l.Txs[0] },
		"none at all": func(l *api.Line) { l.Txs = nil },
	}
	for bit := range 256 {
		changes[fmt.Sprint("From, bit ", bit)] = func(l *api.Line) { l.From = turned(l.From, bit) }
		for i := range 3 {
			changes[fmt.Sprint("Pub of ", i, ", bit ", bit)] = at(i, func(x *api.Tx) { x.Pub = turned(x.Pub, bit) })
			changes[fmt.Sprint("To of ", i, ", bit ", bit)] = at(i, func(x *api.Tx) { x.To = turned(x.To, bit) })
			changes[fmt.Sprint("Sign of ", i, ", bit ", bit)] = at(i, func(x *api.Tx) { x.Sign = turned(x.Sign, bit) })
		}
	}
	for bit := range 64 {
		for i := range 3 {
			changes[fmt.Sprint("Nonce of ", i, ", bit ", bit)] = at(i, func(x *api.Tx) { x.Nonce ^= 1 << bit })
			changes[fmt.Sprint("Amount of ", i, ", bit ", bit)] = at(i, func(x *api.Tx) { x.Amount ^= 1 << bit })
			changes[fmt.Sprint("Fee of ", i, ", bit ", bit)] = at(i, func(x *api.Tx) { x.Fee ^= 1 << bit })
		}
	}
	l := line(3, 4, 6)
	for what, f := range changes {
		if other := with(l, f); queue.Same(l, other) || queue.Same(other, l) {
			t.Errorf("%s: Same", what)
		}
	}
}

func TestEmptyListsAreTheSame(t *testing.T) {
	a, b := api.Line{From: ann}, api.Line{From: ann, Txs: []api.Tx{}}
	if !queue.Same(a, b) || !queue.Same(b, a) {
		t.Error("Same of nil and empty: false")
	}
	for _, l := range []api.Line{a, b} {
		if e := queue.Check(l); e != api.OK {
			t.Errorf("Check of an empty one: error %d", e)
		}
		wantError(t, "an empty one", api.OK, l, paying(3, 0))
		wantReady(t, "an empty one", l, 0)
		wantPast(t, "an empty one", l, greatest)
	}
}

// P19.2: Put.

func TestPut(t *testing.T) {
	for what, l := range soundLines() {
		for _, n := range nearBy(l) {
			for _, fee := range []uint64{0, usual, usual + 1, greatest} {
				wantPut(t, what, l, signed(api.Tx{Pub: annPub, To: hashed(3), Nonce: n, Fee: fee}))
			}
		}
	}
}

// The fee alone tells, whatever else the transactions have.
func TestPutHoldsFeesAgainstEachOther(t *testing.T) {
	fees := []uint64{0, 1, 2, 255, 256, 1<<32 - 1, 1 << 32, math.MaxInt64, 1 << 63, greatest - 1, greatest}
	for _, own := range fees {
		l := api.Line{From: ann, Txs: []api.Tx{paying(2, 5), paying(4, own), paying(5, 5)}}
		for _, fee := range fees {
			want := api.ErrFee
			if fee > own {
				want = api.OK
			}
			for _, x := range []api.Tx{
				{Pub: annPub, To: bob, Amount: 5}, {Pub: annPub, Amount: greatest}, {Pub: annPub, To: ann},
			} {
				x.Nonce, x.Fee = 4, fee
				wantError(t, fmt.Sprint("own fee ", own), want, l, signed(x))
			}
		}
	}
}

func TestPutOfTheVerySame(t *testing.T) {
	for what, l := range soundLines() {
		if l.From != ann {
			continue
		}
		for _, x := range l.Txs {
			wantError(t, what, api.ErrFee, l, x)
		}
	}
}

func TestPutOfWhatIsNotTheLines(t *testing.T) {
	for _, l := range []api.Line{line(), line(3, 4, 6), line(nonces(0, 1, 256)...)} {
		for what, f := range wrongTxs() {
			for _, n := range []uint64{0, 3, 5, 999} {
				x := paying(n, greatest)
				f(&x)
				wantError(t, fmt.Sprint(brief(l.Txs), ", ", what), api.ErrArg, l, x)
			}
		}
	}
	wantError(t, "nobody's line", api.ErrArg, api.Line{}, paying(0, 0))
	wantError(t, "nobody's line", api.ErrArg, api.Line{}, signed(api.Tx{}))
}

// Full is a line for a nonce that it has not.
func TestPutToAsManyAsMayBe(t *testing.T) {
	l := line(nonces(10, 2, 255)...)
	for _, n := range []uint64{0, 9, 11, 263, 519, greatest} {
		full, e := wantPut(t, "255", l, paying(n, usual))
		if e != api.OK || len(full.Txs) != 256 {
			t.Fatalf("the 256th: error %d, %s", e, brief(full.Txs))
		}
		for _, more := range []uint64{1, 13, 261, 521, greatest - 1} {
			wantError(t, "256", api.ErrFull, full, paying(more, greatest))
		}
		for _, has := range []uint64{n, 10, 12, 264, 518} {
			wantError(t, "256, one that it has", api.OK, full, paying(has, usual+1))
			wantError(t, "256, one that it has", api.ErrFee, full, paying(has, usual))
		}
	}
}

// Which error is told, where several apply.
func TestOrderOfErrors(t *testing.T) {
	full := line(nonces(0, 1, 256)...)
	bad := with(full, func(l *api.Line) { l.Txs[255] = l.Txs[254] })
	unsigned := paying(3, 0)
	unsigned.Sign = api.Digest{}
	wantError(t, "bad, not signed, and of a lesser fee", api.ErrBad, bad, unsigned)
	wantError(t, "bad, of a lesser fee", api.ErrBad, bad, paying(3, 0))
	wantError(t, "bad, and full", api.ErrBad, bad, paying(999, 9))
	wantError(t, "not signed, of a lesser fee", api.ErrArg, full, unsigned)
	unsigned.Nonce = 999
	wantError(t, "not signed, and full", api.ErrArg, full, unsigned)
	wantError(t, "bob's, and full", api.ErrArg, full, signed(api.Tx{Pub: bobPub, Nonce: 999}))
	wantError(t, "bob's, of a lesser fee", api.ErrArg, full, signed(api.Tx{Pub: bobPub, Nonce: 3}))
	wantError(t, "of a lesser fee, and full", api.ErrFee, full, paying(3, 0))
	wantError(t, "full", api.ErrFull, full, paying(256, 0))
}

// In whichever order they are put, the line is the same.
func TestPutInAnyOrder(t *testing.T) {
	random := rand.New(rand.NewSource(1))
	for _, want := range soundLines() {
		if len(want.Txs) > 24 {
			continue
		}
		for range 4 {
			l := api.Line{From: want.From}
			for _, i := range random.Perm(len(want.Txs)) {
				l, _ = wantPut(t, "in any order", l, want.Txs[i])
			}
			if !alike(l, want) {
				t.Errorf("put in another order: %s, want %s", brief(l.Txs), brief(want.Txs))
			}
		}
	}
}

// P19.2: Ready, Past.

func TestReadyAndPast(t *testing.T) {
	for what, l := range soundLines() {
		for _, n := range nearBy(l) {
			wantReady(t, what, l, n)
			wantPast(t, what, l, n)
		}
	}
}

// All from the greatest nonce on is just that one, also where 0 is there.
func TestNoNonceIsBehindTheGreatest(t *testing.T) {
	l := line(0, 1, greatest-1, greatest)
	for from, want := range map[uint64][]uint64{
		greatest: {greatest}, greatest - 1: {greatest - 1, greatest}, greatest - 2: nil, 0: {0, 1}, 1: {1}, 2: nil,
	} {
		if ready, e := queue.Ready(l, from); e != api.OK || !slices.Equal(noncesOf(ready), want) {
			t.Errorf("Ready from %d: error %d, %s", from, e, brief(ready))
		}
	}
	if out, gone, e := queue.Past(l, greatest); e != api.OK || !alike(out, line(greatest)) || len(gone) != 3 {
		t.Errorf("Past the greatest: error %d, %s, gone %s", e, brief(out.Txs), brief(gone))
	}
}

func TestPastOfAllAndOfNone(t *testing.T) {
	l := line(nonces(3, 2, 256)...)
	if out, gone, e := queue.Past(l, 3); e != api.OK || !alike(out, l) || len(gone) != 0 {
		t.Errorf("Past of none: error %d, %s, gone %s", e, brief(out.Txs), brief(gone))
	}
	if out, gone, e := queue.Past(l, 514); e != api.OK || !alike(out, line()) || !slices.Equal(gone, l.Txs) {
		t.Errorf("Past of all: error %d, %s, gone %s", e, brief(out.Txs), brief(gone))
	}
}

// P19.3.

// What stands behind a list's end is its caller's: neither read nor changed.
func roomy(l api.Line) api.Line {
	out := append(make([]api.Tx, 0, len(l.Txs)+4), l.Txs...)
	next := paying(9, 99)
	if len(l.Txs) > 0 {
		next = paying(l.Txs[len(l.Txs)-1].Nonce+1, 99)
	}
	for i := len(out); i < cap(out); i++ {
		out[:cap(out)][i] = next
		next = paying(next.Nonce+1, 99)
	}
	return api.Line{From: l.From, Txs: out}
}

func wholly(l []api.Tx) []api.Tx {
	return slices.Clone(l[:cap(l)])
}

// Also what an append to it would write to.
func overwrite(l []api.Tx) {
	l = l[:cap(l)]
	for i := range l {
		l[i] = api.Tx{Pub: hashed(99), Nonce: 99}
	}
}

// Each list that one call answers.
func calls(x api.Tx, nonce uint64) map[string]func(l api.Line) [][]api.Tx {
	return map[string]func(l api.Line) [][]api.Tx{
		"Put": func(l api.Line) [][]api.Tx {
			out, old, _ := queue.Put(l, x)
			return [][]api.Tx{out.Txs, old}
		},
		"Ready": func(l api.Line) [][]api.Tx {
			ready, _ := queue.Ready(l, nonce)
			return [][]api.Tx{ready}
		},
		"Past": func(l api.Line) [][]api.Tx {
			out, gone, _ := queue.Past(l, nonce)
			return [][]api.Tx{out.Txs, gone}
		},
		"Twin": func(l api.Line) [][]api.Tx { return [][]api.Tx{queue.Twin(l).Txs} },
		"Check, and Same": func(l api.Line) [][]api.Tx {
			queue.Check(l)
			queue.Same(l, l)
			return nil
		},
	}
}

func everyCall(t *testing.T, f func(what string, l api.Line, call func(l api.Line) [][]api.Tx)) {
	t.Helper()
	for _, l := range []api.Line{
		line(), line(3), line(3, 4, 6), line(2, 3, 4, 5), line(5, 6), line(nonces(0, 1, 255)...), line(nonces(0, 1, 256)...),
		line(nonces(3, 1, 300)...), line(3, 3),
	} {
		for _, n := range []uint64{0, 3, 4, 5, 7, 300, greatest} {
			for what, call := range calls(paying(n, usual+1), n) {
				f(fmt.Sprint(what, " of ", n, " of ", brief(l.Txs)), l, call)
			}
		}
	}
}

func TestWhatIsHandedInStays(t *testing.T) {
	everyCall(t, func(what string, l api.Line, call func(l api.Line) [][]api.Tx) {
		in := roomy(l)
		before := wholly(in.Txs)
		for _, list := range call(in) {
			overwrite(list)
		}
		if !slices.Equal(wholly(in.Txs), before) {
			t.Errorf("%s: what was handed in is changed", what)
		}
	})
}

func TestWhatIsBehindTheEndIsNotRead(t *testing.T) {
	everyCall(t, func(what string, l api.Line, call func(l api.Line) [][]api.Tx) {
		if !slices.EqualFunc(call(roomy(l)), call(copied(l)), slices.Equal) {
			t.Errorf("%s: with room behind it is answered otherwise", what)
		}
	})
}

func TestWhatIsAnsweredIsNewMemory(t *testing.T) {
	everyCall(t, func(what string, l api.Line, call func(l api.Line) [][]api.Tx) {
		in := roomy(l)
		lists, want := call(in), call(copied(l))
		overwrite(in.Txs)
		if !slices.EqualFunc(lists, want, slices.Equal) {
			t.Errorf("%s: it shares memory with what was handed in", what)
		}
	})
}

func TestListsThatAreAnsweredAreEachTheirOwn(t *testing.T) {
	everyCall(t, func(what string, l api.Line, call func(l api.Line) [][]api.Tx) {
		want := call(copied(l))
		for i := range want {
			lists := call(copied(l))
			overwrite(lists[i])
			for j := range want {
				if j != i && !slices.Equal(lists[j], want[j]) {
					t.Errorf("%s: the lists %d and %d share memory", what, i, j)
				}
			}
		}
		if again := call(copied(l)); !slices.EqualFunc(again, want, slices.Equal) {
			t.Errorf("%s: asked again it is another one", what)
		}
	})
}

// P19.4.

// Of each nonce the best that was put, since it was past.
func wantBest(t *testing.T, l api.Line, best map[uint64]api.Tx) {
	t.Helper()
	if len(l.Txs) != len(best) {
		t.Fatalf("%s, want %d", brief(l.Txs), len(best))
	}
	for _, x := range l.Txs {
		if x != best[x.Nonce] {
			t.Fatalf("of the nonce %d there is %v, want %v", x.Nonce, x, best[x.Nonce])
		}
	}
}

func TestTheBestStaysUntilItIsPast(t *testing.T) {
	for seed := range int64(6) {
		random := rand.New(rand.NewSource(seed))
		few := seed%2 == 0
		l, best := line(), map[uint64]api.Tx{}
		for range 700 {
			n := uint64(random.Intn(400))
			if few {
				n %= 12
			}
			x := signed(api.Tx{Pub: annPub, To: hashed(random.Intn(5)), Nonce: n, Fee: uint64(random.Intn(4))})
			own, has := best[n]
			out, e := wantPut(t, "a walk", l, x)
			if e == api.OK {
				l = out
			}
			if has && x.Fee > own.Fee || !has && len(best) < 256 {
				best[n] = x
			}
			if random.Intn(20) == 0 && (few || len(best) == 256) {
				n = n % 40
				l = wantPast(t, "a walk", l, n)
				for old := range n {
					delete(best, old)
				}
			}
			wantBest(t, l, best)
		}
	}
}

func TestAReadyRunIsOneNonceBehindTheOther(t *testing.T) {
	for what, l := range soundLines() {
		for _, n := range nearBy(l) {
			ready, e := queue.Ready(l, n)
			for i, x := range ready {
				own, has := of(l, x.Nonce)
				if e != api.OK || x.Nonce != n+uint64(i) || !has || x != own {
					t.Fatalf("%s: Ready from %d: error %d, %s", what, n, e, brief(ready))
				}
			}
			end := n + uint64(len(ready))
			if _, has := of(l, end); has && end >= n {
				t.Errorf("%s: Ready from %d: %s, and %d is left", what, n, brief(ready), end)
			}
		}
	}
}

// P1.

func randomChange(random *rand.Rand, l *api.Line) {
	i := random.Intn(len(l.Txs) + 1)
	n := []uint64{0, 1, 2, 3, greatest, random.Uint64()}[random.Intn(6)]
	switch random.Intn(8) {
	case 0:
		l.From = []api.Digest{ann, bob, annPub, {}}[random.Intn(4)]
	case 1, 2, 3:
		l.Txs = slices.Insert(l.Txs, i, paying(n, n))
	case 4:
		l.Txs = slices.Delete(l.Txs, i/2, i)
	case 5:
		l.Txs = append(l.Txs, l.Txs[:i]...)
	case 6:
		l.Txs = append(l.Txs, api.Tx{Pub: annPub, Nonce: n})
	case 7:
		*l = sorted(*l)
		l.Txs = slices.CompactFunc(l.Txs, func(x, y api.Tx) bool { return x.Nonce == y.Nonce })
	}
}

func TestWhateverIsHandedIn(t *testing.T) {
	random := rand.New(rand.NewSource(3))
	for range 400 {
		l := copied([]api.Line{{}, line(), line(3, 4, 6), line(0, 1, 2), line(nonces(0, 1, 255)...), line(greatest)}[random.Intn(6)])
		for range random.Intn(5) {
			randomChange(random, &l)
		}
		want := api.ErrBad
		if mayBe(l) {
			want = api.OK
		}
		if e := queue.Check(l); e != want {
			t.Errorf("Check of %s: error %d, want error %d", brief(l.Txs), e, want)
		}
		for _, n := range []uint64{0, 3, greatest, random.Uint64()} {
			wantPut(t, "whatever", l, paying(n, random.Uint64()))
			wantReady(t, "whatever", l, n)
			wantPast(t, "whatever", l, n)
		}
		wantPut(t, "whatever", l, api.Tx{})
	}
}
