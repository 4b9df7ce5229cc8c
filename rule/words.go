package rule

import (
	"slices"
	"strings"

	"witan/api"
	"witan/expr"
	"witan/template"
)

// words is words, and how far they are read.
type words struct {
	list []api.Tok
	next int // the first word that is not read
}

// giveUp ends all reading at the next word.
func (w *words) giveUp(e api.Errno) { panic(e) }

// reach goes on at a word, as another layer tells it: with an error that is
// the one at which that layer can't go on, and so no more can this one.
func (w *words) reach(next int, e api.Errno) {
	w.next = next
	if e != api.OK {
		w.giveUp(e)
	}
}

func (w *words) atEnd() bool { return w.next == len(w.list) }

// word tells the next word; one of no kind, if there is none.
func (w *words) word() api.Tok {
	if w.atEnd() {
		return api.Tok{}
	}
	return w.list[w.next]
}

// place tells the next word's place, or that behind the last one.
func (w *words) place() api.Place {
	if w.atEnd() {
		return expr.Behind(w.list)
	}
	return w.word().At
}

// quoted tells the next word as one of the grammar's, which are names or
// signs; nothing, if it is neither.
func (w *words) quoted() string {
	if next := w.word(); next.Kind == api.TokName || next.Kind == api.TokSign {
		return next.Text
	}
	return ""
}

// is tells whether the next word is one of those of the grammar's.
func (w *words) is(quoted ...string) bool {
	return slices.Contains(quoted, w.quoted())
}

// took tells whether the next word is that one, and goes on behind it, if it is.
func (w *words) took(quoted string) bool {
	if !w.is(quoted) {
		return false
	}
	w.next++
	return true
}

// take goes on behind the next word, which has to be that one.
func (w *words) take(quoted string) {
	if !w.took(quoted) {
		w.giveUp(api.ErrForm)
	}
}

// name tells the next word, which has to be a name, and goes on behind it.
func (w *words) name() string {
	next := w.word()
	if next.Kind != api.TokName || !template.Name(next.Text) {
		w.giveUp(api.ErrForm)
	}
	w.next++
	return strings.Clone(next.Text)
}
