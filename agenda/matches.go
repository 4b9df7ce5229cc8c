package agenda

import (
	"strconv"

	"witan/api"
)

// match is an activation that matches, and where it stands in the queue.
type match struct {
	act   api.Act
	place int // below 0: it was fired
}

func (m *match) isWaiting() bool { return m.place >= 0 }

// matches is what matches, by rule and tuple.
type matches map[key]*match

// key is a rule, and the ids of a tuple as text, each with a blank behind it.
type key struct {
	rule  int
	tuple string
}

func keyOf(x api.Act) key {
	var s []byte
	for _, id := range x.Tuple {
		s = append(strconv.AppendInt(s, int64(id), 10), ' ')
	}
	return key{x.Rule, string(s)}
}

func (l matches) find(x api.Act) (*match, bool) {
	m, ok := l[keyOf(x)]
	return m, ok
}

func (l matches) has(x api.Act) bool {
	_, ok := l.find(x)
	return ok
}

func (l matches) wasFired(x api.Act) bool {
	m, ok := l.find(x)
	return ok && !m.isWaiting()
}

// put tells what matches now, and true; false, if it matched already.
func (l matches) put(x api.Act) (*match, bool) {
	k := keyOf(x)
	if _, ok := l[k]; ok {
		return nil, false
	}
	m := &match{act: owned(x)}
	l[k] = m
	return m, true
}

// take tells what matches no more, and true; false, if it did not match.
func (l matches) take(x api.Act) (*match, bool) {
	k := keyOf(x)
	m, ok := l[k]
	delete(l, k)
	return m, ok
}
