package reading

import (
	"slices"
	"testing"

	"witan/api"
)

// names reads names up to an "end", at most three.
func names(w *Words) []string {
	var l []string
	w.Several(1, 3, func() bool { return w.Took("end") }, func() { l = append(l, w.Name()) })
	return l
}

// What is read is all of a text; with an error nothing is told but its place.
func TestText(t *testing.T) {
	l, at, e := Text("a b\nend", names)
	if !slices.Equal(l, []string{"a", "b"}) || at != (api.Place{}) || e != api.OK {
		t.Errorf("%v, %v, %d", l, at, e)
	}
	for _, x := range []struct {
		text string
		at   api.Place
		want api.Errno
	}{
		{"", api.Place{Line: 1, Col: 1}, api.ErrForm}, {"end", api.Place{Line: 1, Col: 1}, api.ErrForm}, {"a 1", api.Place{Line: 1, Col: 3}, api.ErrForm}, {"a", api.Place{Line: 1, Col: 2}, api.ErrForm}, {"a end\n b", api.Place{Line: 2, Col: 2}, api.ErrForm},
		{"a b c d end", api.Place{Line: 1, Col: 7}, api.ErrMany}, {"a b c", api.Place{Line: 1, Col: 6}, api.ErrMany}, {"1 %", api.Place{Line: 1, Col: 3}, api.ErrForm}, {"a 9223372036854775808", api.Place{Line: 1, Col: 3}, api.ErrOver},
	} {
		if l, at, e := Text(x.text, names); l != nil || at != x.at || e != x.want {
			t.Errorf("%q: %v, %v, %d; want %v, %d", x.text, l, at, e, x.at, x.want)
		}
	}
}

// A panic that no word gave rise to goes on.
func TestOtherPanics(t *testing.T) {
	defer func() {
		if recover() == nil {
			t.Error("a fault is taken for what is wrong with a text")
		}
	}()
	Text("a", func(w *Words) int { panic("a fault") })
}
