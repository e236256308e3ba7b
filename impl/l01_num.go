package impl

import (
	"errors"
	"strconv"
	"strings"
)

const (
	mostRead = 999999     // the greatest that Number reads
	mostPut  = 2147483647 // the greatest that PutNum writes
	sumBy    = 65521      // what SumOf divides by
)

var errNoNumber = errors.New("no number")

// Digits tells n in decimal digits, `-` ahead of one below 0.
func Digits(n int) string {
	return strconv.Itoa(n)
}

// Number reads what Digits tells of a number from 0 to 999999.
func Number(s string) (int, bool) {
	// A call that recovers answers the zero values of its results: 0 and false.
	defer func() { _ = recover() }()
	return numberIn(s), true
}

// numberIn panics where s is no number, so that Number alone says what is answered then.
func numberIn(s string) int {
	n, err := strconv.Atoi(s)
	// Atoi also takes a sign and zeros ahead, which Digits never tells.
	if err != nil || n < 0 || n > mostRead || Digits(n) != s {
		panic(errNoNumber)
	}
	return n
}

// PutNum writes a number from 0 to 2147483647 in as few bytes as there can be, nothing of others.
func PutNum(n int) []byte {
	if n < 0 || n > mostPut {
		return nil
	}
	var b []byte
	for n > 127 {
		b = append(b, byte(n%128+128))
		n /= 128
	}
	return append(b, byte(n))
}

// GetNum reads the number that PutNum wrote at that place, and tells the place behind it.
func GetNum(b []byte, at int) (int, int, bool) {
	// A call that recovers answers the zero values of its results: 0, 0 and false.
	defer func() { _ = recover() }()
	n, behind := numberAt(b, at)
	return n, behind, true
}

// numberAt panics where no number begins, so that GetNum alone says what is answered then.
func numberAt(b []byte, at int) (int, int) {
	if at < 0 || at >= len(b) {
		panic(errNoNumber)
	}
	n := 0
	// No number takes more bytes than the greatest one; to stop there keeps n from wrapping round.
	for i := range min(len(b)-at, len(PutNum(mostPut))) {
		c := int(b[at+i])
		n += (c % 128) << (7 * i)
		if c > 127 {
			continue
		}
		// PutNum takes no bytes for one that is too great, and fewer for one that is not the shortest.
		if len(PutNum(n)) != i+1 {
			panic(errNoNumber)
		}
		return n, at + i + 1
	}
	panic(errNoNumber)
}

// Split tells what stands between the bytes of s that are by; one empty text of the empty one.
func Split(s string, by byte) []string {
	// By way of a list of bytes: a byte from 128 on would become a rune of two bytes.
	return strings.Split(s, string([]byte{by}))
}

// SumOf tells the check sum of b: two running sums, the second one ahead of the first one.
func SumOf(b []byte) int {
	first, second := 1, 0
	for _, c := range b {
		first = (first + int(c)) % sumBy
		second = (second + first) % sumBy
	}
	return second*65536 + first
}
