// Package wire encodes values as bytes (layer 1, shared/doc/01-wire.md).
package wire

import (
	"math"

	"culprit/api"
)

const (
	zero    = 128 // the first byte of the encoding of 0
	longest = 8   // the greatest number of bytes after the first one
	byteAll = 255 // the complement of a byte b is b ^ byteAll
)

// Int returns the encoding of an integer.
func Int(n int) []byte { return appendInt(nil, n) }

// GetInt decodes an integer at the beginning of a byte sequence.
func GetInt(b []byte) (int, int, api.Errno) {
	if len(b) == 0 {
		return 0, 0, api.ErrMore
	}
	flip := byte(0)
	if b[0] < zero {
		flip = byteAll
	}
	k := int(b[0]^flip) - zero
	if k > longest {
		return 0, 0, api.ErrForm
	}
	if len(b)-1 < k {
		return 0, 0, api.ErrMore
	}
	m := uint64(0)
	for _, c := range b[1 : 1+k] {
		m = m<<8 | uint64(c^flip)
	}
	leadingNought := k > 0 && b[1] == flip
	if leadingNought || m > math.MaxInt64 {
		return 0, 0, api.ErrForm
	}
	if flip != 0 {
		m = ^m
	}
	return int(m), 1 + k, api.OK
}

// Bytes returns the encoding of a byte string.
func Bytes(s string) []byte { return appendBytes(nil, s) }

// GetBytes decodes a byte string at the beginning of a byte sequence.
func GetBytes(b []byte) (string, int, api.Errno) {
	n, used, e := getLength(b, 1)
	if e != api.OK {
		return "", 0, e
	}
	end := used + n
	return string(b[used:end]), end, api.OK
}

// Ints returns the encoding of a list of integers.
func Ints(l []int) []byte {
	b := Int(len(l))
	for _, n := range l {
		b = appendInt(b, n)
	}
	return b
}

// GetInts decodes a list of integers at the beginning of a byte sequence.
func GetInts(b []byte) ([]int, int, api.Errno) { return getList(b, 1, GetInt) }

// Strings returns the encoding of a list of byte strings.
func Strings(l []string) []byte {
	b := Int(len(l))
	for _, s := range l {
		b = appendBytes(b, s)
	}
	return b
}

// GetStrings decodes a list of byte strings at the beginning of a byte sequence.
func GetStrings(b []byte) ([]string, int, api.Errno) { return getList(b, 1, GetBytes) }

// Digests returns the encoding of a list of digests.
func Digests(l []api.Digest) []byte {
	b := Int(len(l))
	for _, d := range l {
		b = append(b, d[:]...)
	}
	return b
}

// GetDigests decodes a list of digests at the beginning of a byte sequence.
func GetDigests(b []byte) ([]api.Digest, int, api.Errno) {
	return getList(b, api.DigestSize, getDigest)
}

// appendInt appends the encoding of n to b. The encoding of a negative n is
// that of -1 - n with every byte complemented, the first one included: this
// is what makes the encodings have the order of the integers.
func appendInt(b []byte, n int) []byte {
	m, flip := uint64(n), byte(0)
	if n < 0 {
		m, flip = ^m, byteAll
	}
	var row [1 + longest]byte
	at := len(row)
digits:
	for {
		at--
		switch m {
		case 0:
			row[at] = byte(zero+longest-at) ^ flip
			break digits
		default:
			row[at] = byte(m) ^ flip
		}
		m >>= 8
	}
	return append(b, row[at:]...)
}

// appendBytes appends the encoding of s to b.
func appendBytes(b []byte, s string) []byte {
	return append(appendInt(b, len(s)), s...)
}

// getLength decodes a number of elements of at least least bytes each, and
// returns it with the number of bytes of its encoding. It compares without a
// multiplication, because the product could wrap around.
func getLength(b []byte, least int) (int, int, api.Errno) {
	n, used, e := GetInt(b)
	if e != api.OK {
		return 0, 0, e
	}
	if n < 0 {
		return 0, 0, api.ErrForm
	}
	if n > (len(b)-used)/least {
		return 0, 0, api.ErrMore
	}
	return n, used, api.OK
}

// getDigest takes a digest from the beginning of b, which has enough bytes
// because getList has counted them.
func getDigest(b []byte) (api.Digest, int, api.Errno) {
	return api.Digest(b[:api.DigestSize]), api.DigestSize, api.OK
}

// getList decodes a list whose elements have at least least bytes each, and
// are decoded by get. The list grows with what is decoded, so that a length
// alone costs no memory.
func getList[T any](b []byte, least int, get func([]byte) (T, int, api.Errno)) ([]T, int, api.Errno) {
	n, used, e := getLength(b, least)
	if e != api.OK {
		return nil, 0, e
	}
	var l []T
	next := func() api.Errno {
		x, more, e := get(b[used:])
		l, used = append(l, x), used+more
		return e
	}
	for range n {
		if e := next(); e != api.OK {
			return nil, 0, e
		}
	}
	return l, used, api.OK
}
