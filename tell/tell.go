// Package tell tells texts part by part: what writes programs and what writes
// tables have this in common.
package tell

import (
	"witan/api"
	"witan/template"
)

// writer has what is written of a text. It goes no further than a source does,
// nor behind a part that has no text: lists and names may be of any length, and
// one may stand in a text many times.
type writer struct {
	text []byte
	none bool // there is no text
}

func (w *writer) put(s string) {
	if len(s) > api.MaxSource-len(w.text) {
		w.none = true
	}
	if !w.none {
		w.text = append(w.text, s...)
	}
}

// Part writes a part of a text.
type Part func(w *writer)

// Text tells a part's text, and whether it has one, no longer than a source.
func Text(p Part) (string, bool) {
	var w writer
	p(&w)
	if w.none {
		return "", false
	}
	return string(w.text), true
}

// Said is a part of texts that are known, one right behind the other.
func Said(texts ...string) Part {
	return func(w *writer) {
		for _, s := range texts {
			w.put(s)
		}
	}
}

// Asked is a part whose text a layer was asked for; with an error it has none.
func Asked(s string, e api.Errno) Part {
	return func(w *writer) {
		w.none = w.none || e != api.OK
		w.put(s)
	}
}

// All is a part of those, one right behind the other.
func All(parts ...Part) Part {
	return func(w *writer) {
		for _, p := range parts {
			p(w)
		}
	}
}

// Line is a line of those, with its end.
func Line(parts ...Part) Part {
	return All(All(parts...), Said("\n"))
}

// Listed is a part of one for each of a list, with a text between.
func Listed[T any](l []T, between string, one func(x T) Part) Part {
	return func(w *writer) {
		for i, x := range l {
			if w.none {
				return
			}
			if i > 0 {
				w.put(between)
			}
			one(x)(w)
		}
	}
}

// Slots is a part of slots' names and kinds, with a blank ahead of each.
func Slots(l []api.Slot) Part {
	return Listed(l, "", func(s api.Slot) Part { return Said(" ", s.Name, ":", template.KindName(s.Kind)) })
}
