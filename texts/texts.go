// Package texts does with texts what the language's functions do: see doc/01-texts.md.
//
// Answers are cloned where the library would hand out a piece of what came in, so that nothing of an argument is kept by an answer.
package texts

import (
	"strings"

	"scanfail/api"
)

// tooLong looks at all texts of a call together, since ErrMuch is told ahead of everything else.
func tooLong(texts ...string) bool {
	for _, t := range texts {
		if len(t) > api.MaxText {
			return true
		}
	}
	return false
}

// Trim is text without the blanks and tabs at its end.
func Trim(text string) (string, api.Errno) {
	if tooLong(text) {
		return "", api.ErrMuch
	}
	return strings.Clone(strings.TrimRight(text, " \t")), api.OK
}

// Dupl is text, n times.
func Dupl(text string, n int) (string, api.Errno) {
	if tooLong(text) {
		return "", api.ErrMuch
	}
	if n < 0 {
		return "", api.ErrRange
	}
	if text == "" {
		return "", api.OK
	}
	// Divided rather than multiplied: a product might wrap round.
	if n > api.MaxText/len(text) {
		return "", api.ErrMuch
	}
	return strings.Clone(strings.Repeat(text, n)), api.OK
}

// Reverse is text, its last byte first.
func Reverse(text string) (string, api.Errno) {
	if tooLong(text) {
		return "", api.ErrMuch
	}
	out := make([]byte, len(text))
	for i := range len(text) {
		out[len(text)-1-i] = text[i]
	}
	return string(out), api.OK
}

// Replace is text, each byte of from in it replaced by the one of to at from's last place with it.
func Replace(text, from, to string) (string, api.Errno) {
	if tooLong(text, from, to) {
		return "", api.ErrMuch
	}
	if from == "" || len(to) != len(from) {
		return "", api.ErrFit
	}
	become := becoming(from, to)
	out := make([]byte, len(text))
	for i := range len(text) {
		out[i] = become[text[i]]
	}
	return string(out), api.OK
}

// becoming is what each byte becomes; from and to are of one length. From left to right, so that the last place of a byte in from holds.
func becoming(from, to string) [256]byte {
	var become [256]byte
	for b := range become {
		become[b] = byte(b)
	}
	for i := range len(from) {
		become[from[i]] = to[i]
	}
	return become
}

// Substr is the n bytes of text from byte at on; the first byte is 1.
func Substr(text string, at, n int) (string, api.Errno) {
	if tooLong(text) {
		return "", api.ErrMuch
	}
	if at < 1 || n < 0 {
		return "", api.ErrNone
	}
	ahead := at - 1
	// Taken away rather than added: at and n together might wrap round.
	if ahead > len(text) || n > len(text)-ahead {
		return "", api.ErrNone
	}
	return strings.Clone(text[ahead : ahead+n]), api.OK
}

// Lpad is text with as many of fill ahead of it as make it n bytes long.
func Lpad(text string, n int, fill string) (string, api.Errno) {
	pad, err := padding(text, n, fill)
	if err != api.OK {
		return "", err
	}
	return strings.Clone(pad + text), api.OK
}

// Rpad is text with as many of fill behind it as make it n bytes long.
func Rpad(text string, n int, fill string) (string, api.Errno) {
	pad, err := padding(text, n, fill)
	if err != api.OK {
		return "", err
	}
	return strings.Clone(text + pad), api.OK
}

// padding is what Lpad and Rpad lay beside text: they differ in the side alone.
func padding(text string, n int, fill string) (string, api.Errno) {
	if tooLong(text) {
		return "", api.ErrMuch
	}
	if len(fill) != 1 {
		return "", api.ErrFit
	}
	if n > api.MaxText {
		return "", api.ErrMuch
	}
	// Asked ahead of n - len(text), which wraps round for the least n.
	if n <= len(text) {
		return "", api.OK
	}
	return strings.Repeat(fill, n-len(text)), api.OK
}

// Compare is -1, if a is ahead of b, 1, if b is ahead of a, and 0, if they are the same.
func Compare(a, b string) (int, api.Errno) {
	if tooLong(a, b) {
		return 0, api.ErrMuch
	}
	return strings.Compare(a, b), api.OK
}

// Split is the pieces of text between its signs.
func Split(text, sign string) ([]string, api.Errno) {
	if tooLong(text) {
		return nil, api.ErrMuch
	}
	if len(sign) != 1 {
		return nil, api.ErrFit
	}
	return strings.Split(strings.Clone(text), sign), api.OK
}

// Join is the texts of l, one behind the other, a sign between two.
func Join(l []string, sign string) (string, api.Errno) {
	if len(sign) != 1 {
		return "", api.ErrFit
	}
	if joinsTooLong(l) {
		return "", api.ErrMuch
	}
	return strings.Clone(strings.Join(l, sign)), api.OK
}

// joinsTooLong tells whether l, with one byte between two, is longer than a text may be. It stops as soon as it is, so that the sum does not wrap round.
func joinsTooLong(l []string) bool {
	size := len(l) - 1
	for _, s := range l {
		size += len(s)
		if size > api.MaxText {
			return true
		}
	}
	return false
}

// Count is how often part stands in text, looked for from the left, each time behind the last one.
func Count(text, part string) (int, api.Errno) {
	if tooLong(text, part) {
		return 0, api.ErrMuch
	}
	if part == "" {
		return 0, api.ErrFit
	}
	return strings.Count(text, part), api.OK
}

// Rotate is text from its byte n modulo its length on, and behind it what stood ahead of that.
func Rotate(text string, n int) (string, api.Errno) {
	if tooLong(text) {
		return "", api.ErrMuch
	}
	if text == "" {
		return "", api.OK
	}
	k := n % len(text)
	if k < 0 {
		k += len(text)
	}
	return strings.Clone(text[k:] + text[:k]), api.OK
}
