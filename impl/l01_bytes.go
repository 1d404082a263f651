package impl

import (
	"strconv"
	"strings"
)

const MaxNum = 4294967295

// maxDigits bounds the reading, so that bytes without an end are given up early: MaxNum itself has five digits.
const maxDigits = 5

const digitBits = 7
const moreDigits = 1 << digitBits

func isNum(n int) bool {
	return n >= 0 && n <= MaxNum
}

// PutVar copies b into room of its own: appending to b could write into memory that the caller still holds.
func PutVar(b []byte, n int) ([]byte, bool) {
	if !isNum(n) {
		return nil, false
	}
	out := make([]byte, 0, len(b)+maxDigits)
	out = append(out, b...)
	rest := uint32(n)
	for rest >= moreDigits {
		out = append(out, byte(rest)|moreDigits)
		rest >>= digitBits
	}
	return append(out, byte(rest)), true
}

func GetVar(b []byte, at int) (int, int, bool) {
	if at < 0 || at >= len(b) {
		return 0, 0, false
	}
	n := uint64(0)
	for i := range min(maxDigits, len(b)-at) {
		digit := b[at+i]
		n |= uint64(digit&^moreDigits) << (digitBits * i)
		if digit >= moreDigits {
			continue
		}
		// PutVar spells each number in one way only: with a 0 on top it would be a second one.
		if n > MaxNum || digit == 0 && i > 0 {
			return 0, 0, false
		}
		return int(n), at + i + 1, true
	}
	return 0, 0, false
}

// PutZig looks at the range ahead of doubling, which would wrap round for ints far out.
func PutZig(b []byte, n int) ([]byte, bool) {
	if n < -(MaxNum/2)-1 || n > MaxNum/2 {
		return nil, false
	}
	if n < 0 {
		return PutVar(b, -2*n-1)
	}
	return PutVar(b, 2*n)
}

func GetZig(b []byte, at int) (int, int, bool) {
	n, next, ok := GetVar(b, at)
	if n&1 == 1 {
		return -(n >> 1) - 1, next, ok
	}
	return n >> 1, next, ok
}

// newSum gives two closures over one register, so that nothing else can reach it.
func newSum() (func(byte), func() int) {
	register := ^uint32(0)
	feed := func(c byte) {
		register ^= uint32(c)
		for range 8 {
			low := register & 1
			register >>= 1
			if low == 1 {
				register ^= 3988292384
			}
		}
	}
	total := func() int {
		return int(^register)
	}
	return feed, total
}

func Crc(b []byte) int {
	feed, total := newSum()
	for _, c := range b {
		feed(c)
	}
	return total()
}

func NumText(n int) string {
	if !isNum(n) {
		return ""
	}
	return strconv.Itoa(n)
}

// TextNum holds the text against what would be written, as strconv also reads zeros in front.
func TextNum(s string) (int, bool) {
	n, err := strconv.ParseUint(s, 10, 32)
	if err != nil || NumText(int(n)) != s {
		return 0, false
	}
	return int(n), true
}

// cutAt clones the pieces, which would otherwise lie in the memory of s.
func cutAt(s string, mark string) []string {
	pieces := strings.Split(s, mark)
	for i := range pieces {
		pieces[i] = strings.Clone(pieces[i])
	}
	return pieces
}

func Parts(s string) []string {
	return cutAt(s, " ")
}

func Lines(s string) []string {
	lines := cutAt(s, "\n")
	last := len(lines) - 1
	if lines[last] == "" {
		return lines[:last]
	}
	return lines
}

func Mod(n int, m int) int {
	if m < 1 {
		return 0
	}
	rest := n % m
	if rest < 0 {
		return rest + m
	}
	return rest
}
