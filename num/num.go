// Package num is layer 1: numbers as bytes, the lowest byte or bit first.
package num

import (
	"ashlar/api"
)

const (
	byteBits = 8
	maxSize  = 8
	maxWidth = 8
	maxMany  = 1 << 20
)

// Put answers the bytes of a number of a size.
func Put(n uint64, size int) ([]byte, api.Errno) {
	if !maySize(size) || !fits(n, size*byteBits) {
		return nil, api.ErrArg
	}
	out := make([]byte, size)
	for i := range size {
		out[i] = byte(n >> (i * byteBits))
	}
	return out, api.OK
}

// Get answers the number of a size whose bytes begin at a place.
func Get(b []byte, at, size int) (uint64, api.Errno) {
	if !maySize(size) || at < 0 || at > len(b) {
		return 0, api.ErrArg
	}
	if len(b)-at < size {
		return 0, api.ErrShort
	}
	var n uint64
	for i := range size {
		n |= uint64(b[at+i]) << (i * byteBits)
	}
	return n, api.OK
}

// Bits answers numbers of a width laid one behind the other.
func Bits(l []uint8, width int) ([]byte, api.Errno) {
	if !mayWidth(width) {
		return nil, api.ErrArg
	}
	for _, n := range l {
		if !fits(uint64(n), width) {
			return nil, api.ErrArg
		}
	}
	out := make([]byte, taken(len(l), width))
	for i := range len(l) {
		at, above := place(i, width)
		both := uint16(l[i]) << above
		out[at] |= byte(both)
		if spills(above, width) {
			out[at+1] |= byte(both >> byteBits)
		}
	}
	return out, api.OK
}

// Unbits answers so many numbers of a width that lie one behind the other.
func Unbits(b []byte, width, many int) ([]uint8, api.Errno) {
	if !mayWidth(width) || many < 0 || many > maxMany {
		return nil, api.ErrArg
	}
	if len(b) < taken(many, width) {
		return nil, api.ErrShort
	}
	mask := uint16(1)<<width - 1
	out := make([]uint8, many)
	for i := range many {
		at, above := place(i, width)
		both := uint16(b[at])
		if spills(above, width) {
			both |= uint16(b[at+1]) << byteBits
		}
		out[i] = uint8(both >> above & mask)
	}
	return out, api.OK
}

func maySize(size int) bool { return size >= 1 && size <= maxSize }

func mayWidth(width int) bool { return width >= 1 && width <= maxWidth }

// fits tells whether a number has no more than so many bits.
func fits(n uint64, bits int) bool { return n>>bits == 0 }

// taken tells how many bytes so many numbers of a width take. Eight numbers
// take width bytes: counted so, no product leaves what an int holds.
func taken(many, width int) int {
	rest := many % byteBits * width
	return many/byteBits*width + (rest+byteBits-1)/byteBits
}

// place tells in which byte the i-th number begins, and above how many bits.
func place(i, width int) (at, above int) {
	rest := i % byteBits * width
	return i/byteBits*width + rest/byteBits, rest % byteBits
}

// spills tells whether a number above so many bits reaches into the next byte.
func spills(above, width int) bool { return above+width > byteBits }
