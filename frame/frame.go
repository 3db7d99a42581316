// Package frame is layer 1: sums of bytes, and frames, by which torn or turned bytes are known. See shared/doc/01-frame.md.
package frame

import "tollgate/api"

const (
	turned   = 0xedb88320 // CRC-32's polynomial, its bits turned round
	wordSize = 4          // bytes of a length, and of a sum
	headSize = 2 * wordSize
)

// Sum is the CRC-32 of b.
func Sum(b []byte) uint32 { return Extend(0, b) }

// Extend is the CRC-32 of bytes whose sum is known, with b behind them.
func Extend(sum uint32, b []byte) uint32 {
	register := ^sum
	for _, c := range b {
		register = shiftByte(register ^ uint32(c))
	}
	return ^register
}

func shiftByte(register uint32) uint32 {
	for range 8 {
		out := register & 1
		register >>= 1
		if out == 1 {
			register ^= turned
		}
	}
	return register
}

// Frame is b with its length and sum ahead.
func Frame(b []byte) ([]byte, api.Errno) {
	if len(b) > api.MaxFrame {
		return nil, api.ErrLimit
	}
	length := word(uint32(len(b)))
	sum := word(frameSum(length[:], b))
	f := make([]byte, headSize+len(b))
	copy(f, length[:])
	copy(f[wordSize:], sum[:])
	copy(f[headSize:], b)
	return f, api.OK
}

// frameSum takes in the length too, so that one that was turned is known.
func frameSum(length, b []byte) uint32 { return Extend(Sum(length), b) }

func word(n uint32) [wordSize]byte {
	return [wordSize]byte{byte(n >> 24), byte(n >> 16), byte(n >> 8), byte(n)}
}

func wordOf(b []byte) uint32 {
	return uint32(b[0])<<24 | uint32(b[1])<<16 | uint32(b[2])<<8 | uint32(b[3])
}

// Next is what the frame at a place holds, and the place behind it.
func Next(b []byte, at int) ([]byte, int, api.Errno) {
	if at < 0 || at > len(b) {
		return nil, 0, api.ErrArg
	}
	if len(b)-at < headSize {
		return nil, 0, api.ErrShort
	}
	length := b[at : at+wordSize]
	sum := wordOf(b[at+wordSize:])
	// Held against the limit ahead of becoming an int, so that no length makes a place leave int.
	if wordOf(length) > api.MaxFrame {
		return nil, 0, api.ErrLimit
	}
	size, start := int(wordOf(length)), at+headSize
	if len(b)-start < size {
		return nil, 0, api.ErrShort
	}
	held := b[start : start+size]
	if frameSum(length, held) != sum {
		return nil, 0, api.ErrSum
	}
	// A piece of b would let the caller's later writes to b change the answer.
	answer := make([]byte, size)
	copy(answer, held)
	return answer, start + size, api.OK
}

// All is what all frames from the beginning hold, and the place behind them.
func All(b []byte) ([][]byte, int) {
	var all [][]byte
	at := 0
	for {
		held, behind, e := Next(b, at)
		if e != api.OK {
			return all, at
		}
		all, at = append(all, held), behind
	}
}
