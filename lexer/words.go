package lexer

import (
	"iter"
	"strings"

	"witan/api"
)

// signs are those of one byte.
const signs = "()[],:=<>+-*/"

// words tells the words of s in their order. The first one that is none is
// told last: its place alone, with its error.
func words(s string) iter.Seq2[api.Tok, api.Errno] {
	return func(yield func(api.Tok, api.Errno) bool) {
		r := reader{source: s, line: 1}
		for r.skip(); r.next < len(s); r.skip() {
			w, e := r.word()
			if !yield(w, e) || e != api.OK {
				return
			}
		}
	}
}

// reader is a source, and how far it is read.
type reader struct {
	source string
	next   int // the first byte that is not read
	line   int // the line's number
	begin  int // the line's first byte
}

// skip reads what stands between words. No word has a line end, so lines are
// counted here alone.
func (r *reader) skip() {
	for r.next < len(r.source) {
		switch r.source[r.next] {
		case ' ':
			r.next++
		case '\n':
			r.next++
			r.line++
			r.begin = r.next
		case ';':
			r.next = r.reach(func(i int) bool { return r.source[i] != '\n' })
		default:
			return
		}
	}
}

// word reads the next word; of one that is none it tells the place alone.
func (r *reader) word() (api.Tok, api.Errno) {
	at := api.Place{Line: r.line, Col: r.next - r.begin + 1}
	kind := r.kind()
	end := r.reach(r.goesOn(kind))
	w, e := meaning(kind, r.source[r.next:end])
	r.next, w.At = end, at
	return w, e
}

// reach tells the place behind the next byte and those behind it that go on with it.
func (r *reader) reach(goesOn func(i int) bool) int {
	end := r.next + 1
	for end < len(r.source) && goesOn(end) {
		end++
	}
	return end
}

// kind tells the next word's kind; 0, if the next byte begins none.
func (r *reader) kind() uint8 {
	b := r.source[r.next]
	switch {
	case isSmallLetter(b):
		return api.TokName
	case isDigit(b):
		return api.TokNumber
	case b == '"':
		return api.TokString
	case b == '#':
		return api.TokSym
	case b == '?' && r.isAt(r.next+1, isSmallLetter):
		return api.TokVar
	case b == '?':
		return api.TokSelf
	case strings.IndexByte(signs, b) >= 0 || r.isPair(r.next):
		return api.TokSign
	}
	return 0
}

// goesOn tells what asks, byte by byte behind the first one of the next word,
// whether a word of that kind goes on with it.
func (r *reader) goesOn(kind uint8) func(i int) bool {
	switch kind {
	case api.TokName, api.TokVar, api.TokSym:
		return func(i int) bool { return isInName(r.source[i]) }
	case api.TokNumber:
		return r.numberGoesOn()
	case api.TokString:
		return r.stringGoesOn()
	case api.TokSign:
		first := r.next
		return func(i int) bool { return i == first+1 && r.isPair(first) }
	}
	return func(int) bool { return false }
}

// numberGoesOn takes a point once, and with a digit behind it alone: of 1..2
// the points are a word of their own.
func (r *reader) numberGoesOn() func(i int) bool {
	point := false
	return func(i int) bool {
		if !point && r.source[i] == '.' && r.isAt(i+1, isDigit) {
			point = true
			return true
		}
		return isDigit(r.source[i])
	}
}

// stringGoesOn takes any byte, up to the quote that ends the string.
func (r *reader) stringGoesOn() func(i int) bool {
	ended, escaped := false, false
	return func(i int) bool {
		if ended {
			return false
		}
		b := r.source[i]
		ended = b == '"' && !escaped
		escaped = b == '\\' && !escaped
		return true
	}
}

// isPair tells whether a sign of two bytes begins at i.
func (r *reader) isPair(i int) bool {
	if i+1 >= len(r.source) {
		return false
	}
	switch r.source[i : i+2] {
	case "<=", ">=", "<>", "..":
		return true
	}
	return false
}

// isAt tells whether there is a byte at i of which that is so.
func (r *reader) isAt(i int, is func(b byte) bool) bool {
	return i < len(r.source) && is(r.source[i])
}

func isInName(b byte) bool { return isSmallLetter(b) || isDigit(b) }

func isSmallLetter(b byte) bool { return 'a' <= b && b <= 'z' }

func isDigit(b byte) bool { return '0' <= b && b <= '9' }
