package tx_test

import (
	"bytes"
	"crypto/sha256"
	"encoding/binary"
	"encoding/hex"
	"fmt"
	"math"
	"math/rand"
	"slices"
	"testing"

	"beadroll/api"
	"beadroll/tx"
)

const (
	bodySize = 88
	size     = 120
	greatest = math.MaxUint64
)

func filled(b byte) api.Digest {
	return api.Digest(bytes.Repeat([]byte{b}, 32))
}

func counting(first byte) api.Digest {
	var d api.Digest
	for i := range d {
		d[i] = first + byte(i)
	}
	return d
}

func hashed(i int) api.Digest {
	return sha256.Sum256([]byte(fmt.Sprint("key ", i)))
}

// No byte is like the one beside it, so that one that is left out or turned round shows.
func counted(n int) []byte {
	b := make([]byte, n)
	for i := range b {
		b[i] = byte(i*7 + 3)
	}
	return b
}

// By the library, and not by tx itself or what it stands on, so that a fault there shows.
func digested(kind uint8, part []byte) api.Digest {
	b := binary.BigEndian.AppendUint32([]byte{kind}, uint32(len(part)))
	return sha256.Sum256(append(b, part...))
}

func bodyOf(x api.Tx) []byte {
	b := slices.Concat(x.Pub[:], x.To[:])
	for _, n := range []uint64{x.Nonce, x.Amount, x.Fee} {
		b = binary.BigEndian.AppendUint64(b, n)
	}
	return b
}

func bytesOf(x api.Tx) []byte {
	return append(bodyOf(x), x.Sign[:]...)
}

// What 120 bytes tell, be it signed or not.
func told(b []byte) api.Tx {
	return api.Tx{
		Pub: api.Digest(b[:32]), To: api.Digest(b[32:64]),
		Nonce: binary.BigEndian.Uint64(b[64:]), Amount: binary.BigEndian.Uint64(b[72:]),
		Fee: binary.BigEndian.Uint64(b[80:]), Sign: api.Digest(b[88:]),
	}
}

func signed(x api.Tx) api.Tx {
	x.Sign = digested(4, bodyOf(x))
	return x
}

func bitTurned(b []byte, i int) []byte {
	b = slices.Clone(b)
	b[i/8] ^= 128 >> (i % 8)
	return b
}

func counts() api.Tx {
	return api.Tx{
		Pub: counting(0), To: counting(32), Nonce: 0x0102030405060708,
		Amount: 0x1112131415161718, Fee: 0x2122232425262728,
	}
}

// Transactions that are not signed: each field at its edges, alone and with others, and
// all fields of random values.
func unsigned() []api.Tx {
	all := []api.Tx{
		{}, counts(), {Nonce: 1, Amount: 5}, {Sign: filled(255)},
		{Pub: filled(255), To: filled(255), Nonce: greatest, Amount: greatest, Fee: greatest},
		{Pub: hashed(1), To: hashed(1), Nonce: 7, Amount: 7, Fee: 7, Sign: hashed(1)},
	}
	for _, d := range []api.Digest{{0: 1}, {31: 1}, {0: 128}, filled(255), hashed(2)} {
		all = append(all, api.Tx{Pub: d}, api.Tx{To: d}, api.Tx{Sign: d})
	}
	for _, n := range []uint64{1, 2, 127, 128, 255, 256, 258, 65535, 65536, math.MaxUint32, 1 << 32,
		math.MaxInt64, 1 << 63, greatest - 1, greatest} {
		all = append(all, api.Tx{Nonce: n}, api.Tx{Amount: n}, api.Tx{Fee: n},
			api.Tx{Pub: hashed(3), To: hashed(4), Nonce: n, Amount: greatest - n, Fee: n / 2})
	}
	random := rand.New(rand.NewSource(1))
	for range 200 {
		all = append(all, randomTx(random))
	}
	return all
}

func randomTx(random *rand.Rand) api.Tx {
	b := make([]byte, size)
	random.Read(b)
	return told(b)
}

// Each twice: as it is, and signed.
func transactions() []api.Tx {
	var all []api.Tx
	for _, x := range unsigned() {
		all = append(all, x, signed(x))
	}
	return all
}

func hexed(d api.Digest) string {
	return hex.EncodeToString(d[:])
}

func wantRefused(t *testing.T, what string, b []byte, want api.Errno) {
	t.Helper()
	if x, e := tx.Read(b); e != want || x != (api.Tx{}) {
		t.Errorf("Read of %s: error %d and %v, want error %d and nothing", what, e, x, want)
	}
}

// The chapter's examples.

func TestExamples(t *testing.T) {
	if e := tx.Check(api.Tx{}); e != api.ErrSign {
		t.Errorf("Check of all zero: error %d", e)
	}
	if e := tx.Check(tx.Sign(api.Tx{})); e != api.OK {
		t.Errorf("Check of all zero, signed: error %d", e)
	}
	for _, x := range transactions() {
		if n := len(tx.Bytes(x)); n != size {
			t.Errorf("Bytes of %v: %d of them", x, n)
		}
	}
	wantRefused(t, "119 bytes", make([]byte, 119), api.ErrShort)
	wantRefused(t, "121 bytes", make([]byte, 121), api.ErrLong)
	wantRefused(t, "120 noughts", make([]byte, 120), api.ErrSign)
}

// P11.1: Body, Bytes.

func TestBodyAndBytesOfOneThatCounts(t *testing.T) {
	var want []byte
	for i := range byte(64) {
		want = append(want, i)
	}
	for _, first := range []byte{1, 0x11, 0x21} {
		for i := range byte(8) {
			want = append(want, first+i)
		}
	}
	x := counts()
	x.Sign = counting(200)
	if b := tx.Body(x); !bytes.Equal(b, want) {
		t.Errorf("Body: %v", b)
	}
	for i := range byte(32) {
		want = append(want, 200+i)
	}
	if b := tx.Bytes(x); !bytes.Equal(b, want) {
		t.Errorf("Bytes: %v", b)
	}
}

func TestBodyAndBytesTellTheFields(t *testing.T) {
	for _, x := range transactions() {
		if b := tx.Body(x); !bytes.Equal(b, bodyOf(x)) {
			t.Errorf("Body of %v: %v", x, b)
		}
		if b := tx.Bytes(x); !bytes.Equal(b, bytesOf(x)) {
			t.Errorf("Bytes of %v: %v", x, b)
		}
	}
}

// Each bit stands in its own place, and in no other one; those of the Sign in no body.
func TestEachBitHasItsPlace(t *testing.T) {
	for _, b := range [][]byte{make([]byte, size), bytesOf(signed(counts())), bytes.Repeat([]byte{255}, size)} {
		for i := range size * 8 {
			other := bitTurned(b, i)
			if got := tx.Bytes(told(other)); !bytes.Equal(got, other) {
				t.Errorf("Bytes, with bit %d turned: %v", i, got)
			}
			if got := tx.Body(told(other)); !bytes.Equal(got, other[:bodySize]) {
				t.Errorf("Body, with bit %d turned: %v", i, got)
			}
		}
	}
}

// P11.1: From, Sign, Id.

// Worked out by another program, once, so that nothing of this one's is asked.
func TestDigestsThatAreKnown(t *testing.T) {
	for _, c := range []struct {
		x              api.Tx
		from, sign, id string
		plain          string // the id of x as it is, with a Sign of noughts
	}{
		{api.Tx{},
			"38a64646e4ced2198f42f8e4897a4ececc2976bad0d0d88f4bad5fca62789571",
			"c9d3c89661f2446a021869c810bdb96805bf129b111f0b31910b950e6031de76",
			"d867d607f34b30473e49d7ede5985694190c0026d1c1ee9b84f2c5d48186a523",
			"4d5f74958124a7f1fa2458fa04bcf412af684ae3037b06e3ce1aad8df5b880ba"},
		{counts(),
			"84d03c2496d3bd564147402b15a4a1ce9adb34336be0eae0f675068690ad6914",
			"72a08b32b233cbb189c71060c5b8b505b59022c695ad1e192d541c07bfa4736f",
			"34379451eea3077fb1d6495537e76f1f85e92e232f48e34399cf3e6595321798",
			"1c918f992251b1f2c6467cb1fb391e86e04e0056d7c83501ab29f67605b79457"},
		{api.Tx{Pub: filled(255), To: filled(255), Nonce: greatest, Amount: greatest, Fee: greatest},
			"94a4e43639ab56f01766980c67fefe122631195a732ca96a7dec685e0181b01d",
			"601990c017eea0acc53b14d7dcf1e6869987a3c67021aac1fb3d8ab91fa6f038",
			"4f5890eec17b8d48c67f8a0a364de618b04e49168d8e75dbbbb677ffc423fbf3",
			"ef60f16eb4a44fe6e081b4f787f46e957d9186f307fc5f5656735c93e8fb8806"},
		{api.Tx{Pub: api.Digest{3}, To: api.Digest{200}, Nonce: 1, Amount: 5},
			"b1e2d2953380a15f78ec08d8ab3d222bc54454e13a202e29d87dcc189eaa84a1",
			"5e96949e62ca696af4ea8be871e5316c82fe926f9096205c286d087c68874b7d",
			"8395dcbd273ccdf150e5eee8b841fdbe9e474ae0e45980778f52dc512ce8a503",
			"3418258934ef45e5dbd6c2bffd9481414a7181d0f0f28aa4a22cd58388eea703"},
	} {
		x := tx.Sign(c.x)
		if hexed(x.Sign) != c.sign {
			t.Errorf("Sign of %v: %x", c.x, x.Sign)
		}
		if from := tx.From(x); hexed(from) != c.from {
			t.Errorf("From of %v: %x", x, from)
		}
		if id := tx.Id(x); hexed(id) != c.id {
			t.Errorf("Id of %v: %x", x, id)
		}
		if id := tx.Id(c.x); hexed(id) != c.plain {
			t.Errorf("Id of %v: %x", c.x, id)
		}
	}
}

func TestDigestsOfEach(t *testing.T) {
	for _, x := range transactions() {
		if got := tx.Sign(x); got != signed(x) {
			t.Errorf("Sign of %v: %v", x, got)
		}
		if from := tx.From(x); from != digested(3, x.Pub[:]) {
			t.Errorf("From of %v: %x", x, from)
		}
		if id := tx.Id(x); id != digested(5, bytesOf(x)) {
			t.Errorf("Id of %v: %x", x, id)
		}
	}
}

// The Sign is of the id, too; the sender hangs on Pub alone.
func TestWhatTheDigestsHangOn(t *testing.T) {
	b := bytesOf(signed(counts()))
	x := told(b)
	for i := range size * 8 {
		y := told(bitTurned(b, i))
		if tx.Id(y) == tx.Id(x) {
			t.Errorf("with bit %d turned the Id stays", i)
		}
		if (tx.From(y) == tx.From(x)) != (y.Pub == x.Pub) {
			t.Errorf("with bit %d turned From is %x", i, tx.From(y))
		}
		if (tx.Sign(y).Sign == x.Sign) != (i >= bodySize*8) {
			t.Errorf("with bit %d turned Sign tells %x", i, tx.Sign(y).Sign)
		}
	}
}

// P11.1: Check.

func TestCheckOfSignedOnes(t *testing.T) {
	for _, x := range unsigned() {
		if e := tx.Check(signed(x)); e != api.OK {
			t.Errorf("Check of %v: error %d", signed(x), e)
		}
		if e := tx.Check(x); e != api.ErrSign {
			t.Errorf("Check of %v: error %d", x, e)
		}
	}
}

func TestCheckOfEachBitTurned(t *testing.T) {
	for _, x := range []api.Tx{{}, counts(), {Pub: hashed(1), To: hashed(2), Nonce: greatest, Amount: 1 << 63, Fee: 1}} {
		b := bytesOf(signed(x))
		for i := range size * 8 {
			if e := tx.Check(told(bitTurned(b, i))); e != api.ErrSign {
				t.Errorf("Check of %v, signed, with bit %d turned: error %d", x, i, e)
			}
		}
	}
}

// Signs that come near: of another kind, of another transaction, of the body alone, of
// more than the body.
func wrongSigns() map[string]api.Tx {
	all := map[string]api.Tx{}
	add := func(what string, sign api.Digest) {
		x := counts()
		x.Sign = sign
		all[what] = x
	}
	x := counts()
	for _, kind := range []uint8{0, 1, 2, 3, 5, 6, 132} {
		add(fmt.Sprint("kind ", kind), digested(kind, bodyOf(x)))
	}
	add("noughts", api.Digest{})
	add("its Pub", x.Pub)
	add("its sender", tx.From(x))
	add("its id", tx.Id(x))
	add("the body's bare digest", sha256.Sum256(bodyOf(x)))
	add("of the body, and noughts", digested(4, bytesOf(x)))
	add("of the bytes that are signed", digested(4, bytesOf(signed(x))))
	for what, other := range map[string]api.Tx{
		"another nonce":               {Pub: x.Pub, To: x.To, Nonce: x.Nonce + 1, Amount: x.Amount, Fee: x.Fee},
		"amount and fee changed over": {Pub: x.Pub, To: x.To, Nonce: x.Nonce, Amount: x.Fee, Fee: x.Amount},
		"nonce and fee changed over":  {Pub: x.Pub, To: x.To, Nonce: x.Fee, Amount: x.Amount, Fee: x.Nonce},
		"Pub and To changed over":     {Pub: x.To, To: x.Pub, Nonce: x.Nonce, Amount: x.Amount, Fee: x.Fee},
		"one that is all zero":        {},
	} {
		add(what, signed(other).Sign)
	}
	return all
}

func TestWrongSignsAreRefused(t *testing.T) {
	for what, x := range wrongSigns() {
		if e := tx.Check(x); e != api.ErrSign {
			t.Errorf("Check, the Sign %s: error %d", what, e)
		}
		wantRefused(t, "one whose Sign is "+what, bytesOf(x), api.ErrSign)
	}
}

// P11.2: Read.

func TestReadTellsTheTransaction(t *testing.T) {
	for _, x := range unsigned() {
		x = signed(x)
		if got, e := tx.Read(bytesOf(x)); e != api.OK || got != x {
			t.Errorf("Read of the bytes of %v: %v, error %d", x, got, e)
		}
	}
}

func TestReadRefusesWhatIsNotSigned(t *testing.T) {
	for _, x := range unsigned() {
		wantRefused(t, fmt.Sprint("the bytes of ", x), bytesOf(x), api.ErrSign)
	}
	b := bytesOf(signed(counts()))
	for i := range size * 8 {
		wantRefused(t, fmt.Sprint("signed bytes, bit ", i, " turned"), bitTurned(b, i), api.ErrSign)
	}
	wantRefused(t, "120 bytes of 255", bytes.Repeat([]byte{255}, size), api.ErrSign)
}

// How many bytes there are is asked first, be they signed or not.
func TestReadRefusesOtherCounts(t *testing.T) {
	whole := bytesOf(signed(counts()))
	for _, b := range [][]byte{whole, make([]byte, size), counted(size)} {
		for n := range size {
			wantRefused(t, fmt.Sprint(n, " bytes"), b[:n], api.ErrShort)
			wantRefused(t, fmt.Sprint(n, " bytes, all there is"), b[:n:n], api.ErrShort)
		}
		for _, more := range []int{1, 2, 7, 8, 31, 32, 88, 119, 120, 121, 256, 4096, 1 << 20} {
			wantRefused(t, fmt.Sprint(size+more, " bytes"), slices.Concat(b, counted(more)), api.ErrLong)
			wantRefused(t, fmt.Sprint(more, " bytes, and 120"), slices.Concat(counted(more), b), api.ErrLong)
		}
	}
	wantRefused(t, "nil", nil, api.ErrShort)
	wantRefused(t, "one twice", slices.Concat(whole, whole), api.ErrLong)
	wantRefused(t, "the body alone", whole[:bodySize], api.ErrShort)
}

// P11.3.

// What stands behind a list's end is its caller's: neither read nor changed.
func roomy(b []byte) []byte {
	out := append(make([]byte, 0, len(b)+size), b...)
	copy(out[len(b):cap(out)], counted(size))
	return out
}

func wholly(b []byte) []byte {
	return slices.Clone(b[:cap(b)])
}

// Also what an append to it would write to.
func overwrite(b []byte) {
	b = b[:cap(b)]
	for i := range b {
		b[i] ^= 0xff
	}
}

func TestBytesThatAreHandedInStay(t *testing.T) {
	whole := bytesOf(signed(counts()))
	for _, b := range [][]byte{{}, whole[:1], whole[:bodySize], whole[:119], whole, append(whole, 7), counted(size), counted(300)} {
		in := roomy(b)
		before := wholly(in)
		tx.Read(in)
		if !bytes.Equal(wholly(in), before) {
			t.Errorf("%d bytes that were handed in are changed", len(b))
		}
	}
}

func TestBytesBehindTheEndAreNotRead(t *testing.T) {
	x := signed(counts())
	in := roomy(bytesOf(x))
	if got, e := tx.Read(in); e != api.OK || got != x {
		t.Errorf("Read with room behind: %v, error %d", got, e)
	}
	wantRefused(t, "119 bytes, with the last one behind", in[:119], api.ErrShort)
}

// What is read stays, whatever becomes of the bytes.
func TestWhatIsReadIsItsOwn(t *testing.T) {
	x := signed(counts())
	in := bytesOf(x)
	got, e := tx.Read(in)
	overwrite(in)
	if e != api.OK || got != x {
		t.Errorf("Read, the bytes overwritten: %v, error %d", got, e)
	}
}

func TestTransactionsThatAreHandedInStay(t *testing.T) {
	for _, x := range transactions() {
		before := x
		tx.Body(x)
		tx.Sign(x)
		tx.Check(x)
		tx.From(x)
		tx.Id(x)
		tx.Bytes(x)
		if x != before {
			t.Errorf("%v is changed: %v", before, x)
		}
	}
}

func TestBytesAreNewMemory(t *testing.T) {
	for _, x := range transactions() {
		body, all := tx.Body(x), tx.Bytes(x)
		overwrite(tx.Body(x))
		overwrite(tx.Bytes(x))
		if !bytes.Equal(body, bodyOf(x)) || !bytes.Equal(all, bytesOf(x)) {
			t.Errorf("the bytes of %v share memory with others", x)
		}
		overwrite(body)
		if !bytes.Equal(all, bytesOf(x)) || !bytes.Equal(tx.Body(x), bodyOf(x)) {
			t.Errorf("the body of %v is not new memory", x)
		}
		overwrite(all)
		if !bytes.Equal(tx.Bytes(x), bytesOf(x)) || tx.Sign(x) != signed(x) {
			t.Errorf("the bytes of %v are not new memory", x)
		}
	}
}

// P11.4.

func TestBytesTellWhatIsSigned(t *testing.T) {
	for _, x := range unsigned() {
		x = tx.Sign(x)
		if got, e := tx.Read(tx.Bytes(x)); e != api.OK || got != x {
			t.Errorf("Read of the Bytes of %v: %v, error %d", x, got, e)
		}
	}
}

// Of whatever bytes: such as are read are those of what is read; all others are refused.
func TestWhatIsReadHasTheseBytes(t *testing.T) {
	random := rand.New(rand.NewSource(2))
	for i := range 3000 {
		b := make([]byte, size-random.Intn(2)+random.Intn(2))
		random.Read(b)
		isSigned := i%2 == 0 && len(b) == size
		if isSigned {
			sign := digested(4, b[:bodySize])
			copy(b[bodySize:], sign[:])
		}
		x, e := tx.Read(b)
		if (e == api.OK) != isSigned {
			t.Fatalf("Read of %x: error %d", b, e)
		}
		if isSigned && (!bytes.Equal(tx.Bytes(x), b) || tx.Check(x) != api.OK) {
			t.Fatalf("Read of %x: %v", b, x)
		}
		if !isSigned && x != (api.Tx{}) {
			t.Fatalf("Read of %x: error %d, and %v beside it", b, e, x)
		}
	}
}

// Two that are unlike have unlike bytes, signed or not.
func TestUnlikeOnesHaveUnlikeBytes(t *testing.T) {
	seen := map[string]api.Tx{}
	for _, x := range transactions() {
		b := string(tx.Bytes(x))
		if other, is := seen[b]; is && other != x {
			t.Errorf("%v and %v have the same bytes", x, other)
		}
		seen[b] = x
	}
}

func TestToSignChangesTheSignAlone(t *testing.T) {
	for _, x := range transactions() {
		once := tx.Sign(x)
		if twice := tx.Sign(once); twice != once {
			t.Errorf("%v, signed twice: %v, once: %v", x, twice, once)
		}
		once.Sign = x.Sign
		if once != x {
			t.Errorf("%v, signed, is %v but for the Sign", x, once)
		}
	}
}
