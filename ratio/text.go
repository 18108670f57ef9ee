package ratio

import (
	"slices"
	"strconv"
	"strings"

	"foresight/api"
)

// The digits that one word can be told by, and the first number beyond them.
const (
	chunkDigits = 19
	chunk       = 10_000_000_000_000_000_000
)

// Text writes a fraction: lowered, a whole number alone.
func (a Ratio) Text() string {
	text := a.over.text()
	if a.below {
		text = "-" + text
	}
	if len(a.under) > 0 {
		text += "/" + a.under.text()
	}
	return text
}

// Words writes fractions, with blanks between.
func Words(l []Ratio) string {
	texts := make([]string, len(l))
	for i, a := range l {
		texts[i] = a.Text()
	}
	return strings.Join(texts, " ")
}

// Parse reads a fraction: 3, -3/4.
func Parse(text string) (Ratio, error) {
	over, under, err := cut(text)
	if err != nil {
		return Ratio{}, err
	}
	if len(over) > api.MaxDigits || len(under) > api.MaxDigits {
		return Ratio{}, api.ErrLimit
	}
	lower := digits(under)
	if len(lower) == 0 {
		return Ratio{}, api.ErrZero
	}
	return lowered(text[0] == '-', digits(over), lower), nil
}

// cut is the digits of both numbers of a text ("1" for a lower one that isn't
// there), or where it is of another form.
func cut(text string) (over, under string, err error) {
	from := 0
	if strings.HasPrefix(text, "-") {
		from = 1
	}
	line := digitsEnd(text, from)
	if line == from {
		return "", "", &api.At{Err: api.ErrForm, Place: line}
	}
	if line == len(text) {
		return text[from:], "1", nil
	}
	if text[line] != '/' {
		return "", "", &api.At{Err: api.ErrForm, Place: line}
	}
	end := digitsEnd(text, line+1)
	if end == line+1 || end < len(text) {
		return "", "", &api.At{Err: api.ErrForm, Place: end}
	}
	return text[from:line], text[line+1:], nil
}

// digitsEnd is where the digits that begin at a place of a text end.
func digitsEnd(text string, from int) int {
	for from < len(text) && '0' <= text[from] && text[from] <= '9' {
		from++
	}
	return from
}

// digits is the number of these digits.
func digits(text string) natural {
	var out natural
	for i := range len(text) {
		out = out.mul(word(10)).add(word(uint64(text[i] - '0')))
	}
	return out
}

// text is its digits.
func (a natural) text() string {
	var parts []uint64
	left := slices.Clone(a)
	for len(left) > 0 {
		parts = append(parts, divideInto(left, chunk))
		left = left.trimmed()
	}
	if len(parts) == 0 {
		return "0"
	}
	var out strings.Builder
	out.WriteString(strconv.FormatUint(parts[len(parts)-1], 10))
	for i := len(parts) - 2; i >= 0; i-- {
		part := strconv.FormatUint(parts[i], 10)
		out.WriteString(strings.Repeat("0", chunkDigits-len(part)))
		out.WriteString(part)
	}
	return out.String()
}
