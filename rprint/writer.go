package rprint

import "witan/api"

// writer has what is written of a text. It goes no further than a source does,
// nor behind a part that has no text: lists and names may be of any length, and
// one may stand in a program many times.
type writer struct {
	text []byte
	none bool // there is no text
}

func (w *writer) put(s string) {
	if len(s) > api.MaxSource-len(w.text) {
		w.none = true
	}
	if !w.none {
		w.text = append(w.text, s...)
	}
}

// part writes a part of a text.
type part func(w *writer)

// said is a part of texts that are known, one right behind the other.
func said(texts ...string) part {
	return func(w *writer) {
		for _, s := range texts {
			w.put(s)
		}
	}
}

// told is a part that another layer tells the text of; with an error it has none.
func told(s string, e api.Errno) part {
	return func(w *writer) {
		w.none = w.none || e != api.OK
		w.put(s)
	}
}

// all is a part of those, one right behind the other.
func all(parts ...part) part {
	return func(w *writer) {
		for _, p := range parts {
			p(w)
		}
	}
}

// line is a line of those, with its end.
func line(parts ...part) part {
	return all(all(parts...), said("\n"))
}

// listed is a part of one for each of a list, with a text between.
func listed[T any](l []T, between string, one func(x T) part) part {
	return func(w *writer) {
		for i, x := range l {
			if w.none {
				return
			}
			if i > 0 {
				w.put(between)
			}
			one(x)(w)
		}
	}
}
