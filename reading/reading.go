// Package reading reads texts word by word: what the readers of programs and
// of tables have in common.
package reading

import (
	"witan/api"
	"witan/lexer"
)

// Text reads what is all of s, as whole reads it; with an error it tells its
// place, if it has one.
func Text[T any](s string, whole func(w *Words) T) (T, api.Place, api.Errno) {
	var none T
	l, at, e := lexer.Lex(s)
	if e != api.OK {
		return none, at, e
	}
	w := &Words{list: l}
	x, e := read(w, whole)
	if e != api.OK {
		return none, w.Place(), e
	}
	return x, api.Place{}, api.OK
}

// read reads what is all words, or tells why the next one can't go on with it.
// Only GiveUp panics with an Errno; any other panic is a fault, and goes on.
func read[T any](w *Words, whole func(w *Words) T) (x T, e api.Errno) {
	defer func() {
		if p := recover(); p != nil {
			e = p.(api.Errno)
		}
	}()
	x = whole(w)
	if !w.AtEnd() {
		w.GiveUp(api.ErrForm)
	}
	return x, api.OK
}
