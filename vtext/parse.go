package vtext

import (
	"strconv"
	"strings"

	"witan/api"
	"witan/value"
)

// places is how many digits the rest of a decimal has at most.
const places = 4

// form is how texts that begin alike are read.
type form struct {
	// read tells the one value of which s may be the text; an error, if there is none.
	read func(s string) (api.Value, api.Errno)
}

// Parse tells the value of which s is the text; ErrLong, ErrOver, ErrForm.
func Parse(s string) (api.Value, api.Errno) {
	if len(s) > api.MaxValue {
		return api.Value{}, api.ErrLong
	}
	if s == "" {
		return api.Value{}, api.ErrForm
	}
	f, ok := forms()[beginning(s[0])]
	if !ok {
		return api.Value{}, api.ErrForm
	}
	v, e := f.read(s)
	if e != api.OK {
		return api.Value{}, e
	}
	// A value has one text: one that reads as v but is written otherwise (-0, 1.50,
	// "\a") is none's, and what may not be has none.
	if Text(v) != s {
		return api.Value{}, api.ErrForm
	}
	return v, api.OK
}

// beginning is 0 for all digits, as what they begin is read alike.
func beginning(b byte) byte {
	if isDigit(b) {
		return '0'
	}
	return b
}

// forms are by what begins a text.
func forms() map[byte]form {
	return map[byte]form{
		'n': {read: onlyOf(api.Value{})},
		't': {read: onlyOf(value.Truth(true))},
		'f': {read: onlyOf(value.Truth(false))},
		'"': {read: readQuoted},
		'#': {read: readSymbol},
		'-': {read: readNumber},
		'0': {read: readNumber},
	}
}

// onlyOf is for a beginning that one value's text alone has.
func onlyOf(v api.Value) func(s string) (api.Value, api.Errno) {
	return func(string) (api.Value, api.Errno) { return v, api.OK }
}

func readSymbol(s string) (api.Value, api.Errno) {
	return api.Value{Kind: api.Sym, S: strings.Clone(s[1:])}, api.OK
}

// readQuoted takes what follows a \ as it is: whether a \ had to be there,
// and whether a " is at the end alone, shows when the text is told again.
func readQuoted(s string) (api.Value, api.Errno) {
	var b strings.Builder
	inner := strings.TrimSuffix(s[1:], `"`)
	for i := 0; i < len(inner); i++ {
		if inner[i] == '\\' && i+1 < len(inner) {
			i++
		}
		b.WriteByte(inner[i])
	}
	return api.Value{Kind: api.Str, S: b.String()}, api.OK
}

// readNumber asks for the form first, as only what has it may be too great.
func readNumber(s string) (api.Value, api.Errno) {
	sign, size := "", s
	if s[0] == '-' {
		sign, size = "-", s[1:]
	}
	whole, rest, point := strings.Cut(size, ".")
	if !isWhole(whole) {
		return api.Value{}, api.ErrForm
	}
	if !point {
		return number(api.Int, sign+whole)
	}
	if !isDigits(rest) || len(rest) > places {
		return api.Value{}, api.ErrForm
	}
	return number(api.Dec, sign+whole+rest+strings.Repeat("0", places-len(rest)))
}

// number is handed digits, with or without a - ahead: no other error than ErrOver is left.
func number(kind uint8, digits string) (api.Value, api.Errno) {
	n, err := strconv.ParseInt(digits, 10, 64)
	if err != nil {
		return api.Value{}, api.ErrOver
	}
	return api.Value{Kind: kind, N: n}, api.OK
}

// isWhole tells whether s is digits, without a nought ahead of others.
func isWhole(s string) bool {
	return isDigits(s) && (len(s) == 1 || s[0] != '0')
}

func isDigits(s string) bool {
	for _, b := range []byte(s) {
		if !isDigit(b) {
			return false
		}
	}
	return s != ""
}

func isDigit(b byte) bool { return '0' <= b && b <= '9' }
