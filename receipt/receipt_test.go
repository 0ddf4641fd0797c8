package receipt_test

import (
	"bytes"
	"crypto/sha256"
	"encoding/binary"
	"encoding/hex"
	"fmt"
	"math"
	"math/rand"
	"slices"
	"testing"

	"beadroll/api"
	"beadroll/receipt"
)

const (
	size        = 35
	depositSize = 48
	greatest    = math.MaxUint64
)

func filled(b byte) api.Digest {
	return api.Digest(bytes.Repeat([]byte{b}, 32))
}

func counting(first byte) api.Digest {
	var d api.Digest
	for i := range d {
		d[i] = first + byte(i)
	}
	return d
}

func hashed(i int) api.Digest {
	return sha256.Sum256([]byte(fmt.Sprint("key ", i)))
}

// No byte is like the one beside it, so that one that is left out or turned round shows.
func counted(n int) []byte {
	b := make([]byte, n)
	for i := range b {
		b[i] = byte(i*7 + 3)
	}
	return b
}

func bitTurned(b []byte, i int) []byte {
	b = slices.Clone(b)
	b[i/8] ^= 128 >> (i % 8)
	return b
}

// By the library, and not by receipt itself or what it stands on, so that a fault there shows.
func digested(kind uint8, part []byte) api.Digest {
	b := binary.BigEndian.AppendUint32([]byte{kind}, uint32(len(part)))
	return sha256.Sum256(append(b, part...))
}

func depositBytes(d api.Deposit) []byte {
	b := binary.BigEndian.AppendUint64(nil, d.Number)
	b = append(b, d.To[:]...)
	return binary.BigEndian.AppendUint64(b, d.Amount)
}

// The deposit that 48 bytes tell.
func depositOf(b []byte) api.Deposit {
	return api.Deposit{
		Number: binary.BigEndian.Uint64(b), To: api.Digest(b[8:40]), Amount: binary.BigEndian.Uint64(b[40:]),
	}
}

func bytesOf(kind uint8, id api.Digest, code uint16) []byte {
	return binary.BigEndian.AppendUint16(append([]byte{kind}, id[:]...), code)
}

// All kinds and codes that may be: the words of the chapter, one by one.
func kindsAndCodes() []api.Receipt {
	return []api.Receipt{
		{Kind: 1, Code: 0}, {Kind: 1, Code: 151},
		{Kind: 2, Code: 0}, {Kind: 2, Code: 151}, {Kind: 2, Code: 150},
	}
}

func isKindAndCode(kind uint8, code api.Errno) bool {
	return slices.Contains(kindsAndCodes(), api.Receipt{Kind: kind, Code: code})
}

func ids() []api.Digest {
	return []api.Digest{
		{}, {0: 1}, {31: 1}, {0: 128}, {31: 128}, {0: 2, 31: 150}, {31: 151},
		filled(255), filled(1), counting(0), counting(200), hashed(1), hashed(2),
	}
}

func receipts() []api.Receipt {
	var all []api.Receipt
	for _, id := range ids() {
		for _, r := range kindsAndCodes() {
			r.Id = id
			all = append(all, r)
		}
	}
	return all
}

// Codes that a receipt never has, though many of them end in the bytes of one that it has.
func wrongCodes() []api.Errno {
	all := []api.Errno{
		api.ErrArg, api.ErrMany, api.ErrNone, api.ErrBad, api.ErrFull, api.ErrShort, api.ErrLong, api.ErrSign,
		api.ErrFinal, api.ErrGone, api.ErrFee, api.ErrStale, api.ErrFar, api.ErrFrame, api.ErrDown,
		math.MinInt, math.MinInt + 1, math.MinInt + 151, math.MaxInt, math.MaxInt - 1,
		math.MinInt32, math.MaxInt32, math.MinInt16, math.MaxInt16, math.MaxUint16, math.MaxUint32,
	}
	for _, code := range []api.Errno{0, 150, 151} {
		for _, more := range []api.Errno{256, 512, 1 << 15, 1 << 16, 1 << 17, 1 << 32, 1 << 48, 1 << 62} {
			all = append(all, code+more, code-more)
		}
		all = append(all, code<<8)
	}
	for _, code := range []api.Errno{-1, 1, 149, 152, -150, -151, 22, 23, 406, 407} {
		all = append(all, code)
	}
	return slices.DeleteFunc(all, func(code api.Errno) bool { return code == 0 })
}

// Receipts that may not be.
func wrong() []api.Receipt {
	all := []api.Receipt{{}, {Kind: 1, Code: 150}, {Id: hashed(1), Kind: 1, Code: 150}}
	for _, code := range wrongCodes() {
		for _, id := range []api.Digest{{}, hashed(1)} {
			all = append(all, api.Receipt{Kind: 1, Id: id, Code: code}, api.Receipt{Kind: 2, Id: id, Code: code})
		}
	}
	for kind := range 256 {
		if kind != 1 && kind != 2 {
			for _, code := range append(wrongCodes(), 0, 150, 151) {
				all = append(all, api.Receipt{Kind: uint8(kind), Id: hashed(kind), Code: code})
			}
		}
	}
	return all
}

func wantRefused(t *testing.T, what string, b []byte, want api.Errno) {
	t.Helper()
	if r, e := receipt.Read(b); e != want || r != (api.Receipt{}) {
		t.Errorf("Read of %s: error %d and %v, want error %d and nothing", what, e, r, want)
	}
}

// The chapter's examples.

func TestExamples(t *testing.T) {
	b, e := receipt.Bytes(api.Receipt{Kind: api.RecDeposit, Code: api.ErrOver})
	if want := append(append([]byte{1}, make([]byte, 32)...), 0, 151); e != api.OK || !bytes.Equal(b, want) {
		t.Errorf("Bytes of a deposit's receipt with ErrOver: %v, error %d", b, e)
	}
	if e := receipt.Check(api.Receipt{Kind: api.RecDeposit, Code: api.ErrPoor}); e != api.ErrBad {
		t.Errorf("Check of a deposit's receipt with ErrPoor: error %d", e)
	}
	if e := receipt.Check(api.Receipt{Kind: 3}); e != api.ErrBad {
		t.Errorf("Check of Kind 3: error %d", e)
	}
	wantRefused(t, "34 bytes", make([]byte, 34), api.ErrShort)
	wantRefused(t, "36 bytes", make([]byte, 36), api.ErrLong)
	wantRefused(t, "35 noughts", make([]byte, 35), api.ErrBad)
}

// P12.1: Deposit.

// Worked out by another program, once, so that nothing of this one's is asked.
func TestDepositsThatAreKnown(t *testing.T) {
	for _, c := range []struct {
		d    api.Deposit
		want string
	}{
		{api.Deposit{},
			"1fc561f204a2147e1f013dc6d25768c7ed6218dfe223e2925bdbb370f8222120"},
		{api.Deposit{Number: 0x0102030405060708, To: counting(32), Amount: 0x1112131415161718},
			"65592fc3ef6775a78d46c5f2febe50a37d1e1710fa19c6bf1221b1e34b55e2df"},
		{api.Deposit{Number: greatest, To: filled(255), Amount: greatest},
			"251f9b68bc5929ea7b2bf13bc27387fcc993082a3e0b50d49c18d8adb00cdd90"},
		{api.Deposit{Number: 1, To: api.Digest{200}, Amount: 5},
			"acd4e0dfabb349331c09c0a0089c9da7df4e597291e7dda3558bad596f29c83b"},
	} {
		if id := receipt.Deposit(c.d); hex.EncodeToString(id[:]) != c.want {
			t.Errorf("Deposit of %v: %x", c.d, id)
		}
	}
}

func deposits() []api.Deposit {
	all := []api.Deposit{{}}
	for _, to := range ids() {
		all = append(all, api.Deposit{To: to}, api.Deposit{Number: 1, To: to, Amount: 5})
	}
	for _, n := range []uint64{1, 2, 127, 128, 255, 256, 258, 65535, 65536, math.MaxUint32, 1 << 32,
		math.MaxInt64, 1 << 63, greatest - 1, greatest} {
		all = append(all, api.Deposit{Number: n}, api.Deposit{Amount: n},
			api.Deposit{Number: n, To: hashed(3), Amount: greatest - n})
	}
	random := rand.New(rand.NewSource(1))
	for range 200 {
		b := make([]byte, depositSize)
		random.Read(b)
		all = append(all, depositOf(b))
	}
	return all
}

func TestDepositIsItsId(t *testing.T) {
	for _, d := range deposits() {
		if id := receipt.Deposit(d); id != digested(9, depositBytes(d)) {
			t.Errorf("Deposit of %v: %x", d, id)
		}
	}
}

// Each bit of each field stands in its own place, and in no other one.
func TestEachBitOfADepositHasItsPlace(t *testing.T) {
	for _, b := range [][]byte{make([]byte, depositSize), counted(depositSize), bytes.Repeat([]byte{255}, depositSize)} {
		for i := range depositSize * 8 {
			other := bitTurned(b, i)
			if id := receipt.Deposit(depositOf(other)); id != digested(9, other) {
				t.Errorf("Deposit, with bit %d turned: %x", i, id)
			}
		}
	}
}

func TestUnlikeDepositsHaveUnlikeIds(t *testing.T) {
	seen := map[api.Digest]api.Deposit{}
	swapped := api.Deposit{Number: 5, To: hashed(1), Amount: 1}
	for _, d := range append(deposits(), swapped, api.Deposit{Number: 1, To: hashed(1), Amount: 5}) {
		id := receipt.Deposit(d)
		if other, is := seen[id]; is && other != d {
			t.Errorf("%v and %v have the same id", d, other)
		}
		seen[id] = d
	}
}

// P12.1: Check.

func TestCheckOfWhatMayBe(t *testing.T) {
	for _, r := range receipts() {
		if e := receipt.Check(r); e != api.OK {
			t.Errorf("Check of %v: error %d", r, e)
		}
	}
}

func TestCheckOfWhatMayNotBe(t *testing.T) {
	for _, r := range wrong() {
		if e := receipt.Check(r); e != api.ErrBad {
			t.Errorf("Check of %v: error %d", r, e)
		}
	}
}

func TestCheckOfEachKindAndCode(t *testing.T) {
	for kind := range 256 {
		for code := api.Errno(-300); code <= 1000; code++ {
			e := receipt.Check(api.Receipt{Kind: uint8(kind), Id: hashed(1), Code: code})
			if want := isKindAndCode(uint8(kind), code); (e == api.OK) != want || !want && e != api.ErrBad {
				t.Fatalf("Check of kind %d and code %d: error %d", kind, code, e)
			}
		}
	}
}

// P12.1: Bytes.

func TestBytesOfOneThatCounts(t *testing.T) {
	want := []byte{2}
	for i := range byte(32) {
		want = append(want, 100+i)
	}
	want = append(want, 0, 150)
	b, e := receipt.Bytes(api.Receipt{Kind: api.RecTx, Id: counting(100), Code: api.ErrPoor})
	if e != api.OK || !bytes.Equal(b, want) {
		t.Errorf("Bytes: %v, error %d", b, e)
	}
}

func TestBytesTellTheFields(t *testing.T) {
	for _, r := range receipts() {
		b, e := receipt.Bytes(r)
		if e != api.OK || len(b) != size || !bytes.Equal(b, bytesOf(r.Kind, r.Id, uint16(r.Code))) {
			t.Errorf("Bytes of %v: %v, error %d", r, b, e)
		}
	}
}

func TestEachBitOfAnIdHasItsPlace(t *testing.T) {
	for _, r := range receipts() {
		for i := range 256 {
			other := r
			other.Id = api.Digest(bitTurned(r.Id[:], i))
			b, e := receipt.Bytes(other)
			if want := bitTurned(bytesOf(r.Kind, r.Id, uint16(r.Code)), 8+i); e != api.OK || !bytes.Equal(b, want) {
				t.Errorf("Bytes of %v: %v, error %d", other, b, e)
			}
			if got, e := receipt.Read(b); e != api.OK || got != other {
				t.Errorf("Read of the bytes of %v: %v, error %d", other, got, e)
			}
		}
	}
}

func TestBytesRefusesWhatMayNotBe(t *testing.T) {
	for _, r := range wrong() {
		if b, e := receipt.Bytes(r); e != api.ErrBad || b != nil {
			t.Errorf("Bytes of %v: %v, error %d", r, b, e)
		}
	}
}

// P12.2: Read.

func TestReadTellsTheReceipt(t *testing.T) {
	for _, r := range receipts() {
		got, e := receipt.Read(bytesOf(r.Kind, r.Id, uint16(r.Code)))
		if e != api.OK || got != r {
			t.Errorf("Read of the bytes of %v: %v, error %d", r, got, e)
		}
	}
}

// Both bytes of the code are asked, and all kinds.
func TestReadOfEachKindAndCode(t *testing.T) {
	id := hashed(1)
	for code := range 1 << 16 {
		for _, kind := range []uint8{0, 1, 2, 3, 129, 130, 255} {
			wantReadOrBad(t, kind, id, uint16(code))
		}
	}
	for kind := range 256 {
		for _, code := range []uint16{0, 1, 8, 149, 150, 151, 152, 406, 407, 150 << 8, 151 << 8, 65535} {
			wantReadOrBad(t, uint8(kind), id, code)
		}
	}
}

func wantReadOrBad(t *testing.T, kind uint8, id api.Digest, code uint16) {
	t.Helper()
	var want api.Receipt
	wantError := api.ErrBad
	if isKindAndCode(kind, api.Errno(code)) {
		want, wantError = api.Receipt{Kind: kind, Id: id, Code: api.Errno(code)}, api.OK
	}
	if got, e := receipt.Read(bytesOf(kind, id, code)); e != wantError || got != want {
		t.Fatalf("Read of kind %d and code %d: %v, error %d", kind, code, got, e)
	}
}

// How many bytes there are is asked first, whatever they tell.
func TestReadRefusesOtherCounts(t *testing.T) {
	whole := bytesOf(api.RecTx, hashed(1), 150)
	for _, b := range [][]byte{whole, make([]byte, size), counted(size), bytes.Repeat([]byte{255}, size)} {
		for n := range size {
			wantRefused(t, fmt.Sprint(n, " bytes"), b[:n], api.ErrShort)
			wantRefused(t, fmt.Sprint(n, " bytes, all there is"), b[:n:n], api.ErrShort)
			wantRefused(t, fmt.Sprint("the last ", n, " bytes"), b[size-n:], api.ErrShort)
		}
		for _, more := range []int{1, 2, 8, 32, 34, 35, 36, 256, 4096, 1 << 20} {
			wantRefused(t, fmt.Sprint(size+more, " bytes"), slices.Concat(b, counted(more)), api.ErrLong)
			wantRefused(t, fmt.Sprint(size, " bytes, and ", more, " noughts"), slices.Concat(b, make([]byte, more)), api.ErrLong)
			wantRefused(t, fmt.Sprint(more, " bytes, and 35"), slices.Concat(counted(more), b), api.ErrLong)
		}
	}
	wantRefused(t, "nil", nil, api.ErrShort)
	wantRefused(t, "no bytes", []byte{}, api.ErrShort)
	wantRefused(t, "one twice", slices.Concat(whole, whole), api.ErrLong)
}

// P12.3.

// What stands behind a list's end is its caller's: neither read nor changed.
func roomy(b []byte) []byte {
	out := append(make([]byte, 0, len(b)+size), b...)
	copy(out[len(b):cap(out)], counted(size))
	return out
}

func wholly(b []byte) []byte {
	return slices.Clone(b[:cap(b)])
}

// Also what an append to it would write to.
func overwrite(b []byte) {
	b = b[:cap(b)]
	for i := range b {
		b[i] ^= 0xff
	}
}

func TestBytesThatAreHandedInStay(t *testing.T) {
	whole := bytesOf(api.RecDeposit, counting(1), 151)
	for _, b := range [][]byte{{}, whole[:1], whole[:33], whole[:34], whole, append(whole, 7), make([]byte, size), counted(300)} {
		in := roomy(b)
		before := wholly(in)
		receipt.Read(in)
		if !bytes.Equal(wholly(in), before) {
			t.Errorf("%d bytes that were handed in are changed", len(b))
		}
	}
}

func TestBytesBehindTheEndAreNotRead(t *testing.T) {
	r := api.Receipt{Kind: api.RecTx, Id: counting(1), Code: api.ErrPoor}
	in := roomy(bytesOf(r.Kind, r.Id, uint16(r.Code)))
	if got, e := receipt.Read(in); e != api.OK || got != r {
		t.Errorf("Read with room behind: %v, error %d", got, e)
	}
	wantRefused(t, "34 bytes, with the last one behind", in[:34], api.ErrShort)
}

// What is read stays, whatever becomes of the bytes.
func TestWhatIsReadIsItsOwn(t *testing.T) {
	for _, r := range receipts() {
		in := bytesOf(r.Kind, r.Id, uint16(r.Code))
		got, e := receipt.Read(in)
		overwrite(in)
		if e != api.OK || got != r {
			t.Errorf("Read, the bytes overwritten: %v, error %d", got, e)
		}
	}
}

func TestWhatIsHandedInStays(t *testing.T) {
	for _, r := range append(receipts(), wrong()...) {
		before := r
		receipt.Check(r)
		receipt.Bytes(r)
		if r != before {
			t.Errorf("%v is changed: %v", before, r)
		}
	}
	for _, d := range deposits() {
		before := d
		receipt.Deposit(d)
		if d != before {
			t.Errorf("%v is changed: %v", before, d)
		}
	}
}

func TestBytesAreNewMemory(t *testing.T) {
	for _, r := range receipts() {
		want := bytesOf(r.Kind, r.Id, uint16(r.Code))
		first, _ := receipt.Bytes(r)
		second, _ := receipt.Bytes(r)
		overwrite(second)
		if !bytes.Equal(first, want) {
			t.Errorf("the bytes of %v share memory with others", r)
		}
		overwrite(first)
		if third, _ := receipt.Bytes(r); !bytes.Equal(third, want) {
			t.Errorf("the bytes of %v are not new memory", r)
		}
	}
}

// P12.4.

func TestBytesTellTheReceipt(t *testing.T) {
	for _, r := range receipts() {
		b, _ := receipt.Bytes(r)
		if got, e := receipt.Read(b); e != api.OK || got != r {
			t.Errorf("Read of the Bytes of %v: %v, error %d", r, got, e)
		}
	}
}

// Of whatever bytes: such as are read are those of what is read; all others are refused.
func TestWhatIsReadHasTheseBytes(t *testing.T) {
	random := rand.New(rand.NewSource(2))
	read := 0
	for range 20000 {
		b := make([]byte, size)
		random.Read(b)
		// Else next to none of them would be a receipt's.
		b[0] %= 4
		b[33] %= 2
		b[34] = []byte{0, 150, 151, b[34]}[random.Intn(4)]
		r, e := receipt.Read(b)
		if isReceipt := isKindAndCode(b[0], api.Errno(b[33])<<8+api.Errno(b[34])); (e == api.OK) != isReceipt {
			t.Fatalf("Read of %x: error %d", b, e)
		}
		if e != api.OK {
			continue
		}
		read++
		if again, e := receipt.Bytes(r); e != api.OK || !bytes.Equal(again, b) {
			t.Fatalf("Bytes of what %x tell: %x, error %d", b, again, e)
		}
	}
	if read < 1000 {
		t.Errorf("only %d of them are receipts'", read)
	}
}

func TestUnlikeOnesHaveUnlikeBytes(t *testing.T) {
	seen := map[string]api.Receipt{}
	for _, r := range receipts() {
		b, _ := receipt.Bytes(r)
		if other, is := seen[string(b)]; is && other != r {
			t.Errorf("%v and %v have the same bytes", r, other)
		}
		seen[string(b)] = r
	}
}
