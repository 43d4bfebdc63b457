package impl

import (
	"slices"
	"strconv"
	"strings"
)

const MaxNum = 4294967295
const MaxText = 4000

const maxVarBytes = 5
const maxWord = 12
const crcPolynomial = 2197175160

func isNumber(n int) bool { return 0 <= n && n <= MaxNum }

// appendVar may write into the spare capacity of b, so b must not be an argument of an exported function. The same holds for the two functions below.
func appendVar(b []byte, n int) []byte {
	rest := uint32(n)
	for rest >= 128 {
		b = append(b, byte(rest)|128)
		rest >>= 7
	}
	return append(b, byte(rest))
}

func appendVars(b []byte, numbers ...int) []byte {
	for _, n := range numbers {
		b = appendVar(b, n)
	}
	return b
}

func appendText[T string | []byte](b []byte, text T) []byte {
	return append(appendVar(b, len(text)), text...)
}

func PutVar(b []byte, n int) ([]byte, bool) {
	if !isNumber(n) {
		return nil, false
	}
	return appendVar(slices.Clone(b), n), true
}

func GetVar(b []byte, at int) (int, int, bool) {
	if at < 0 || at >= len(b) {
		return 0, 0, false
	}
	n := 0
	for i := range min(maxVarBytes, len(b)-at) {
		digit := b[at+i]
		n |= int(digit&127) << (7 * i)
		if digit >= 128 {
			continue
		}
		// A zero byte behind others would be a second encoding of the same number.
		if digit == 0 && i > 0 || !isNumber(n) {
			return 0, 0, false
		}
		return n, at + i + 1, true
	}
	return 0, 0, false
}

func PutText(b []byte, s string) ([]byte, bool) {
	if len(s) > MaxText {
		return nil, false
	}
	return appendText(slices.Clone(b), s), true
}

func GetText(b []byte, at int) (string, int, bool) {
	text, next, ok := textAt(b, at, MaxText)
	return string(text), next, ok
}

// textAt returns a part of b that has at most this size.
func textAt(b []byte, at int, most int) ([]byte, int, bool) {
	size, from, ok := GetVar(b, at)
	if !ok || size > most || size > len(b)-from {
		return nil, 0, false
	}
	return b[from : from+size], from + size, true
}

// crcOfParts returns a function that gives the checksum of all the bytes it has received so far,
// so that a header and its data need not be joined for their checksum.
func crcOfParts() func(part []byte) int {
	register := ^uint32(0)
	return func(part []byte) int {
		for _, c := range part {
			register ^= uint32(c)
			for range 8 {
				out := register & 1
				register = register>>1 ^ crcPolynomial*out
			}
		}
		return int(^register)
	}
}

func Crc(b []byte) int { return crcOfParts()(b) }

func crcOfBoth(head []byte, data []byte) int {
	sum := crcOfParts()
	sum(head)
	return sum(data)
}

// appendChecked appends the checksum of head and data, and data. It may write into the spare capacity of head.
func appendChecked(head []byte, data []byte) []byte {
	return append(appendVar(head, crcOfBoth(head, data)), data...)
}

func NumText(n int) string {
	if !isNumber(n) {
		return ""
	}
	return strconv.Itoa(n)
}

func TextNum(s string) (int, bool) {
	n, err := strconv.Atoi(s)
	// Atoi also accepts signs and leading zeros, which NumText never writes.
	if err != nil || NumText(n) != s {
		return 0, false
	}
	return n, true
}

func Parts(s string) []string { return strings.Split(s, " ") }

func WordOk(s string) bool { return isMadeOf(s, maxWord, isWordByte) }

// isMadeOf reports whether s has 1 to size bytes, all of which fit.
func isMadeOf(s string, size int, fits func(c byte) bool) bool {
	if len(s) < 1 || len(s) > size {
		return false
	}
	for i := range len(s) {
		if !fits(s[i]) {
			return false
		}
	}
	return true
}

func isWordByte(c byte) bool {
	return 'a' <= c && c <= 'z' || '0' <= c && c <= '9'
}
