// Package pack has numbers, texts and frames as bytes: see ../../shared/DOC.md and doc/01-pack.md.
package pack

import (
	"math/bits"

	"gaffer/api"
)

const (
	sumFirst  = 65535   // the check of no bytes
	sumTop    = 1 << 15 // the bit that is lost when a check is doubled
	sumTurn   = 4129    // what a check that lost it is xored with
	numberMax = 8       // bytes that a number may need
	sizeBytes = 4       // of a frame, for its payload's size
	sumBytes  = 2       // of a frame, for its check
	headBytes = sizeBytes + sumBytes
)

// Sum is a check; Number, Text and Frame make bytes, the Takes take them.
func Sum(s string) uint16 {
	sum := uint16(sumFirst)
bytes:
	for i := range len(s) {
		sum ^= uint16(s[i]) << 8
		for range 8 {
			if sum == 0 {
				continue bytes // 0 doubled stays 0, however often
			}
			lost := sum&sumTop != 0
			sum <<= 1
			if lost {
				sum ^= sumTurn
			}
		}
	}
	return sum
}

func Number(n uint64) string {
	size := (bits.Len64(n) + 7) / 8
	return string([]byte{byte(size)}) + spread(n, size)
}

func TakeNumber(s string) (uint64, string, api.Errno) {
	if len(s) == 0 {
		return 0, "", api.ErrMore
	}
	size, rest := int(s[0]), s[1:]
	if size > numberMax {
		return 0, "", api.ErrForm
	}
	// Asked ahead of the size, for the error is the one of the first byte that shows it.
	if size > 0 && len(rest) > 0 && rest[0] == 0 {
		return 0, "", api.ErrForm
	}
	if len(rest) < size {
		return 0, "", api.ErrMore
	}
	return gather(rest[:size]), rest[size:], api.OK
}

func Text(t string) string {
	return Number(uint64(len(t))) + t
}

func TakeText(s string) (string, string, api.Errno) {
	size, rest, why := TakeNumber(s)
	switch {
	case why != api.OK:
		return "", "", why
	case size > api.MaxData:
		return "", "", api.ErrLong
	case uint64(len(rest)) < size:
		return "", "", api.ErrMore
	}
	return rest[:size], rest[size:], api.OK
}

func Frame(payload string) (string, api.Errno) {
	if len(payload) > api.MaxData {
		return "", api.ErrLong
	}
	size := spread(uint64(len(payload)), sizeBytes)
	return size + check(size, payload) + payload, api.OK
}

func TakeFrame(s string) (string, string, api.Errno) {
	if len(s) < sizeBytes {
		return "", "", api.ErrMore
	}
	size := gather(s[:sizeBytes])
	if size > api.MaxData {
		return "", "", api.ErrLong
	}
	end := headBytes + int(size)
	if len(s) < end {
		return "", "", api.ErrMore
	}
	payload := s[headBytes:end]
	if s[sizeBytes:headBytes] != check(s[:sizeBytes], payload) {
		return "", "", api.ErrForm
	}
	return payload, s[end:], api.OK
}

// check is over the size too, so that a turned bit there does not go unseen.
func check(size, payload string) string {
	return spread(uint64(Sum(size+payload)), sumBytes)
}

func spread(n uint64, size int) string {
	b := make([]byte, size)
	for i := range b {
		b[i] = byte(n >> (8 * (size - 1 - i)))
	}
	return string(b)
}

func gather(s string) uint64 {
	var n uint64
	for i := range len(s) {
		n = n<<8 | uint64(s[i])
	}
	return n
}
