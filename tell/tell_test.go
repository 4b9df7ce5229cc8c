package tell

import (
	"strings"
	"testing"

	"witan/api"
)

// Parts are told one right behind the other.
func TestText(t *testing.T) {
	number := func(s string) Part { return All(Said("<", s), Said(">")) }
	p := All(Line(Said("a"), Slots([]api.Slot{{Name: "x", Kind: api.Int}, {Name: "y", Kind: api.Sym}})), Line(), Listed([]string{"1", "2", "3"}, ", ", number), Listed(nil, ", ", number), Asked("b", api.OK))
	if s, ok := Text(p); s != "a x:int y:sym\n\n<1>, <2>, <3>b" || !ok {
		t.Errorf("%q, %v", s, ok)
	}
}

// A text is no longer than a source; there is none, if a part has none.
func TestNone(t *testing.T) {
	longest := strings.Repeat("x", api.MaxSource)
	if s, ok := Text(All(Said(longest[1:]), Said("y"))); len(s) != api.MaxSource || !ok {
		t.Errorf("%d bytes, %v", len(s), ok)
	}
	for what, p := range map[string]Part{
		"a byte too many": All(Said(longest), Said("y")),
		"a long part":     Said(longest + "y"),
		"no part":         All(Said("a"), Asked("", api.ErrForm), Said("b")),
		"no last part":    All(Said("a"), Asked("b", api.ErrForm)),
	} {
		if s, ok := Text(p); s != "" || ok {
			t.Errorf("%s: %d bytes, %v", what, len(s), ok)
		}
	}
	// Behind what has no text no more is asked.
	asked := 0
	Text(Listed(make([]int, 1<<20), "", func(int) Part {
		asked++
		return Asked("", api.ErrForm)
	}))
	if asked != 1 {
		t.Errorf("asked %d times", asked)
	}
}
