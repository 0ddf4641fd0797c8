// Package num is layer 1, numbers and parts in bytes: see shared/doc/01-num.md.
package num

import "beadroll/api"

const (
	maxSize   = 8 // a uint64 has no more digits
	partSize  = 2
	digitBits = 8
)

func Put(n uint64, size int) ([]byte, api.Errno) {
	if !isSize(size) {
		return nil, api.ErrArg
	}
	// With all 8 bytes n is moved out as a whole, and nothing is too great.
	if n>>(digitBits*size) != 0 {
		return nil, api.ErrMany
	}
	return digits(n, size), api.OK
}

func Take(b []byte, size int) (n uint64, rest []byte, e api.Errno) {
	if !isSize(size) {
		return 0, nil, api.ErrArg
	}
	if len(b) < size {
		return 0, nil, api.ErrShort
	}
	return number(b, size), cut(b, size, len(b)), api.OK
}

func PutPart(p []byte) ([]byte, api.Errno) {
	if len(p) > api.MaxPart {
		return nil, api.ErrMany
	}
	return append(digits(uint64(len(p)), partSize), p...), api.OK
}

func TakePart(b []byte) (p, rest []byte, e api.Errno) {
	if len(b) < partSize {
		return nil, nil, api.ErrShort
	}
	n := number(b, partSize)
	if n > api.MaxPart {
		return nil, nil, api.ErrMany
	}
	end := partSize + int(n)
	if len(b) < end {
		return nil, nil, api.ErrShort
	}
	return cut(b, partSize, end), cut(b, end, len(b)), api.OK
}

func End(b []byte) api.Errno {
	if len(b) != 0 {
		return api.ErrLong
	}
	return api.OK
}

func isSize(size int) bool {
	return 1 <= size && size <= maxSize
}

func digits(n uint64, size int) []byte {
	b := make([]byte, size)
	for i := range size {
		b[size-1-i] = byte(n >> (digitBits * i))
	}
	return b
}

func number(b []byte, size int) uint64 {
	var n uint64
	for i := range size {
		n = n<<digitBits | uint64(b[i])
	}
	return n
}

func cut(b []byte, from, to int) []byte {
	// The capacity ends with the piece, so that what stands behind it is out of
	// reach; it is copied, as an answer shares no memory with what is handed in.
	piece := b[from:to:to]
	out := make([]byte, len(piece))
	copy(out, piece)
	return out
}
