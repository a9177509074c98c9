package num

import (
	"bytes"
	"strconv"

	"radicand/api"
)

const (
	chunk       = 19                         // decimal digits that a word always has room for
	chunkEnd    = 10_000_000_000_000_000_000 // 10 to the chunk
	leafChunks  = 32                         // numbers of no more chunks are written one chunk by one, others by halves
	wordDigits  = 20                         // decimal digits that a word has at most
	smallDigits = 18                         // decimal digits that an int always has room for
)

// Parse reads a number.
func Parse(text string) (Int, api.Fault) {
	n := numberLen(text)
	if n < len(text) || !endsInDigit(text) {
		return Int{}, api.Fault{Code: api.ErrText, At: n}
	}
	if tooLong(text) {
		return Int{}, api.Fault{Code: api.ErrLong}
	}
	return value(text), api.Fault{}
}

// numberLen is the length of the longest beginning of the text with which some number begins.
func numberLen(text string) int {
	n := 0
	if text != "" && text[0] == '-' {
		n = 1
	}
	if n == 0 && text != "" && text[0] == '0' {
		return 1
	}
	return n + digitsLen(text[n:])
}

// digitsLen is the length of the longest beginning of the text that is digits of which the first is not 0.
func digitsLen(text string) int {
	if text != "" && text[0] == '0' {
		return 0
	}
	for i := range len(text) {
		if text[i] < '0' || text[i] > '9' {
			return i
		}
	}
	return len(text)
}

// endsInDigit tells whether a text with which some number begins is a number itself.
func endsInDigit(text string) bool {
	return text != "" && text != "-"
}

func tooLong(number string) bool {
	_, digits := withoutSign(number)
	return len(digits) > api.MaxDigits
}

func withoutSign(number string) (below bool, digits string) {
	if number[0] == '-' {
		return true, number[1:]
	}
	return false, number
}

// value is what the number is that is written there.
func value(number string) Int {
	below, digits := withoutSign(number)
	if len(digits) <= smallDigits {
		n, _ := strconv.Atoi(number)
		return Of(n)
	}
	w := make([]uint64, 0, len(digits)/chunk+1)
	for digits != "" {
		n := (len(digits)-1)%chunk + 1
		d, _ := strconv.ParseUint(digits[:n], 10, 64)
		digits = digits[n:]
		for i := range w {
			w[i], d = mulAdd(w[i], chunkEnd, d)
		}
		if d != 0 {
			w = append(w, d)
		}
	}
	return signed(below, front(w, len(w)))
}

// Text is the number as Parse reads it.
func (a Int) Text() string {
	if a.wide == nil {
		return strconv.Itoa(a.small)
	}
	text := bytes.Repeat([]byte{'0'}, 1+wordDigits*len(a.wide))
	l := ladderFor(len(a.wide))
	l.write(text, a.wide, len(l.powers))
	i := 0
	for text[i] == '0' {
		i++
	}
	if a.small < 0 {
		i--
		text[i] = '-'
	}
	return string(text[i:])
}

// A ladder is 10 to the digits, the square of that, the square of that square and so on.
type ladder struct {
	digits int
	powers [][]uint64
}

// ladderFor is the ladder on which a number of n words is halved again and again.
func ladderFor(n int) ladder {
	chunks, k := n*wordDigits/chunk+1, 0
	for chunks > leafChunks {
		chunks = (chunks + 1) / 2
		k++
	}
	l := ladder{digits: chunks * chunk}
	for i := range k {
		if i == 0 {
			l.powers = append(l.powers, power(Of(10), l.digits).magnitude())
		} else {
			l.powers = append(l.powers, mulWords(l.powers[i-1], l.powers[i-1]))
		}
	}
	return l
}

// write puts w's digits at the end of the text, which is all '0', by the first k powers of the ladder.
func (l ladder) write(text []byte, w []uint64, k int) {
	if k == 0 {
		writeChunks(text, w)
		return
	}
	q, r := divWords(w, l.powers[k-1])
	if len(q) > 0 {
		l.write(text[:len(text)-l.digits<<(k-1)], q, k-1)
	}
	l.write(text, r, k-1)
}

func writeChunks(text []byte, w []uint64) {
	left := make([]uint64, len(w))
	copy(left, w)
	for end := len(text); len(left) > 0; end -= chunk {
		d := divByWord(left, chunkEnd)
		left = front(left, len(left))
		for i := end - 1; d != 0; i-- {
			text[i] = '0' + byte(d%10)
			d /= 10
		}
	}
}
