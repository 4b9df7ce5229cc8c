package reading

import (
	"slices"
	"strings"

	"witan/api"
	"witan/expr"
	"witan/template"
)

// Words is words, and how far they are read. All reading of them is given up
// by a panic, which Text catches.
type Words struct {
	list []api.Tok
	next int // the first word that is not read
}

// GiveUp ends all reading at the next word.
func (w *Words) GiveUp(e api.Errno) { panic(e) }

// reach goes on at a word, as a layer tells it: with an error that is the one
// at which that layer can't go on, and so no more can this reading.
func (w *Words) reach(next int, e api.Errno) {
	w.next = next
	if e != api.OK {
		w.GiveUp(e)
	}
}

// AtEnd tells whether there are no more words.
func (w *Words) AtEnd() bool { return w.next == len(w.list) }

// Word tells the next word; one of no kind, if there is none.
func (w *Words) Word() api.Tok {
	if w.AtEnd() {
		return api.Tok{}
	}
	return w.list[w.next]
}

// Pass goes on behind the next word, and tells it.
func (w *Words) Pass() api.Tok {
	next := w.Word()
	w.next++
	return next
}

// Place tells the next word's place, or that behind the last one.
func (w *Words) Place() api.Place {
	if w.AtEnd() {
		return expr.Behind(w.list)
	}
	return w.Word().At
}

// Quoted tells the next word as one of the grammar's, which are names or
// signs; nothing, if it is neither.
func (w *Words) Quoted() string {
	if next := w.Word(); next.Kind == api.TokName || next.Kind == api.TokSign {
		return next.Text
	}
	return ""
}

// Is tells whether the next word is one of those of the grammar's.
func (w *Words) Is(quoted ...string) bool {
	return slices.Contains(quoted, w.Quoted())
}

// Took tells whether the next word is that one, and goes on behind it, if it is.
func (w *Words) Took(quoted string) bool {
	if !w.Is(quoted) {
		return false
	}
	w.next++
	return true
}

// Take goes on behind the next word, which has to be that one.
func (w *Words) Take(quoted string) {
	if !w.Took(quoted) {
		w.GiveUp(api.ErrForm)
	}
}

// Name tells the next word, which has to be a name, and goes on behind it.
func (w *Words) Name() string {
	next := w.Word()
	if next.Kind != api.TokName || !template.Name(next.Text) {
		w.GiveUp(api.ErrForm)
	}
	w.next++
	return strings.Clone(next.Text)
}
