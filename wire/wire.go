// Package wire is layer 1: numbers and texts as bytes, each in one form. See shared/doc/01-wire.md.
package wire

import (
	"bytes"

	"neaptide/api"
)

const (
	groupBits = 7
	more      = 1 << groupBits
	// Nine groups hold 63 bits, so that a tenth one has room for a single bit.
	lastGroup    = 9
	lastGroupMax = 1
	greatest     = 1 << 62
)

// Num: a number as bytes.
func Num(n uint64) []byte { return appendNum(nil, n) }

// ReadNum: the number with which bytes begin.
func ReadNum(b []byte) (uint64, []byte, api.Errno) {
	n, used := findNum(b)
	if used == 0 {
		return 0, nil, api.ErrWire
	}
	return n, bytes.Clone(b[used:]), api.OK
}

// Nums: numbers as bytes.
func Nums(nums ...int) ([]byte, api.Errno) {
	if len(nums) > api.MaxNums {
		return nil, api.ErrWire
	}
	var out []byte
	for _, n := range nums {
		if n < -1 {
			return nil, api.ErrWire
		}
		// The 1 is added behind the conversion: there -1 goes round to 0, and the greatest int has room.
		out = appendNum(out, uint64(n)+1)
	}
	return out, api.OK
}

// ReadNums: the numbers with which bytes begin.
func ReadNums(b []byte, many int) ([]int, []byte, api.Errno) {
	if many < 0 || many > api.MaxNums {
		return nil, nil, api.ErrWire
	}
	var nums []int
	for range many {
		n, used := findNum(b)
		if used == 0 || n > greatest+1 {
			return nil, nil, api.ErrWire
		}
		nums = append(nums, int(n)-1)
		b = b[used:]
	}
	return nums, bytes.Clone(b), api.OK
}

// Text: a text as bytes.
func Text(b []byte) ([]byte, api.Errno) {
	if len(b) > api.MaxText {
		return nil, api.ErrWire
	}
	return append(Num(uint64(len(b))), b...), api.OK
}

// ReadText: the text with which bytes begin.
func ReadText(b []byte) ([]byte, []byte, api.Errno) {
	size, used := findNum(b)
	if used == 0 || size > api.MaxText || size > uint64(len(b)-used) {
		return nil, nil, api.ErrWire
	}
	end := used + int(size)
	return bytes.Clone(b[used:end]), bytes.Clone(b[end:]), api.OK
}

// appendNum puts a number's groups behind out.
func appendNum(out []byte, n uint64) []byte {
	for ; n >= more; n >>= groupBits {
		out = append(out, byte(n)|more)
	}
	return append(out, byte(n))
}

// findNum answers the number with which b begins, and how many bytes it takes: 0, if there is none.
func findNum(b []byte) (n uint64, used int) {
	for i, c := range b {
		if i == lastGroup && c > lastGroupMax {
			return 0, 0
		}
		n |= uint64(c%more) << (groupBits * i)
		if c >= more {
			continue
		}
		// A highest group of 0 is one more than needed, unless it is the only one.
		if c == 0 && i > 0 {
			return 0, 0
		}
		return n, i + 1
	}
	return 0, 0
}
