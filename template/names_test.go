package template

import (
	"math/rand"
	"regexp"
	"slices"
	"strings"
	"testing"
)

// keptList is the chapter's list, written out once more.
const keptList = "true, false, null, and, or, not, if, abs, min, max, mod, length, upper, contains, starts, template, rule, when, then, end, exists, test, assert, logical, modify, retract, halt, table, in, out, row"

func kept() []string { return strings.Split(keptList, ", ") }

var nameForm = regexp.MustCompile(`\A[a-z][a-z0-9]{0,11}\z`)

// modelName reads the chapter's words by a pattern and a list.
func modelName(s string) bool {
	return nameForm.MatchString(s) && !slices.Contains(kept(), s)
}

func holdName(t *testing.T, s string) {
	t.Helper()
	if got := Name(s); got != modelName(s) {
		t.Errorf("Name(%.40q) = %t", s, got)
	}
}

// P4.1: Name

func TestName(t *testing.T) {
	for _, s := range []string{"a", "z", "b9", "person", "age", "x1y2", "rules", "exist", "a00000000000", "abcdefghijkl", "zzzzzzzzzzzz", "int", "dec", "str", "bool", "sym", "name", "self", "row1", "inn", "i", "n"} {
		if !Name(s) {
			t.Errorf("Name(%q) = false", s)
		}
	}
	for _, s := range []string{"", " ", "1", "1a", "A", "Ab", "aB", "a_b", "a-b", "a b", " a", "a ", "a\n", "_", "_a", "#a", "?a", "a.", "\x00", "a\x00", "é", "aé", "\xff", "abcdefghijklm", "a000000000000", strings.Repeat("a", 100000)} {
		if Name(s) {
			t.Errorf("Name(%.40q) = true", s)
		}
	}
}

func TestNameOfKeptWords(t *testing.T) {
	if len(kept()) != 31 {
		t.Fatalf("%d words that are kept, want 31", len(kept()))
	}
	for _, s := range kept() {
		if Name(s) {
			t.Errorf("Name(%q) = true", s)
		}
	}
}

// Whatever is one byte away from a word that is kept: one more, one less, another one.
func TestNameNearKeptWords(t *testing.T) {
	for _, s := range kept() {
		for i := 0; i <= len(s); i++ {
			for b := 0; b < 256; b++ {
				one := string([]byte{byte(b)})
				holdName(t, s[:i]+one+s[i:])
				if i < len(s) {
					holdName(t, s[:i]+one+s[i+1:])
				}
			}
			if i < len(s) {
				holdName(t, s[:i]+s[i+1:])
			}
		}
		for _, u := range kept() {
			holdName(t, s+u)
		}
		holdName(t, strings.ToUpper(s))
		holdName(t, strings.ToUpper(s[:1])+s[1:])
	}
}

func TestNameOfShortTexts(t *testing.T) {
	var each func(s string, left int)
	each = func(s string, left int) {
		holdName(t, s)
		if left == 0 {
			return
		}
		for _, c := range []byte("adefimnortxz09A_ ") {
			each(s+string(rune(c)), left-1)
		}
	}
	each("", 3)
}

func TestNameAsksEachByteAndTheLength(t *testing.T) {
	for n := range 40 {
		s := strings.Repeat("a", n)
		if got := Name(s); got != (1 <= n && n <= 12) {
			t.Errorf("Name of %d letters = %t", n, got)
		}
		for b := 0; b < 256; b++ {
			holdName(t, s+string([]byte{byte(b)}))
			holdName(t, string([]byte{byte(b)})+s)
		}
	}
}

func TestNameOfOtherTexts(t *testing.T) {
	r := rand.New(rand.NewSource(4))
	for range 20000 {
		b := make([]byte, r.Intn(15))
		for i := range b {
			b[i] = "abcxyz0189"[r.Intn(10)]
		}
		holdName(t, string(b))
	}
}
