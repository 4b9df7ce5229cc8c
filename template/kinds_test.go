package template

import (
	"testing"

	"witan/api"
)

// P4.3

func kindWords() map[uint8]string {
	return map[uint8]string{api.Int: "int", api.Dec: "dec", api.Str: "str", api.Bool: "bool", api.Sym: "sym"}
}

func TestKindName(t *testing.T) {
	for k := 0; k < 256; k++ {
		// nothing of those that the map has not, Null (0), 6 and 255 among them
		if got, want := KindName(uint8(k)), kindWords()[uint8(k)]; got != want {
			t.Errorf("KindName(%d) = %q, want %q", k, got, want)
		}
	}
}

func TestKind(t *testing.T) {
	for k, s := range kindWords() {
		if got, ok := Kind(s); got != k || !ok {
			t.Errorf("Kind(%q) = %d, %t; want %d, true", s, got, ok, k)
		}
	}
}

func TestKindOfOtherNames(t *testing.T) {
	texts := []string{"", " ", "null", "Null", "nil", "none", "number", "integer", "decimal", "string", "boolean", "symbol", "text", "float", "true", "0", "1", "5", "6", "any", "a", "i", "in", "de", "st", "boo", "sy", "nt", "\x00", "\x01", "intdec", "int dec", "int,dec", "int:"}
	for _, s := range kindWords() {
		texts = append(texts, s+" ", " "+s, s+"s", s+"\n", s+"\x00", s+s, s[:len(s)-1], s[1:], upper(s, len(s)), upper(s, 1), s[:1]+upper(s[1:], 1))
	}
	for _, s := range texts {
		if got, ok := Kind(s); got != 0 || ok {
			t.Errorf("Kind(%q) = %d, %t; want 0, false", s, got, ok)
		}
	}
}

// upper is s with its first n letters in capitals.
func upper(s string, n int) string {
	b := []byte(s)
	for i := range n {
		b[i] -= 'a' - 'A'
	}
	return string(b)
}

// Every text of three and of four small letters: those five names alone are kinds'.
func TestKindOfAllShortTexts(t *testing.T) {
	met := 0
	var each func(s string)
	each = func(s string) {
		k, ok := Kind(s)
		if ok {
			met++
		}
		if want := kindWords()[k]; ok && want != s || !ok && k != 0 {
			t.Errorf("Kind(%q) = %d, %t", s, k, ok)
		}
		if len(s) == 4 {
			return
		}
		for c := byte('a'); c <= 'z'; c++ {
			each(s + string(rune(c)))
		}
	}
	each("")
	if met != 5 {
		t.Errorf("%d names of kinds, want 5", met)
	}
}
