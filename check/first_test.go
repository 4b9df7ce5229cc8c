package check

import (
	"strings"
	"testing"

	"witan/api"
)

// segment is a part of a program's text: as it is where nothing is wrong, and
// with something wrong, each with its error and its place marked.
type segment struct {
	good string
	bad  []wrongText
}

type wrongText struct {
	text string
	want api.Errno
}

// wrongOf tells texts with one error.
func wrongOf(e api.Errno, texts ...string) []wrongText {
	var l []wrongText
	for _, s := range texts {
		l = append(l, wrongText{s, e})
	}
	return l
}

func join(l ...[]wrongText) []wrongText {
	var all []wrongText
	for _, x := range l {
		all = append(all, x...)
	}
	return all
}

// segments are a program, part by part in the order in which it is looked at.
func segments() []segment {
	none, twice, kind, scope, many := api.ErrNone, api.ErrTwice, api.ErrKind, api.ErrScope, api.ErrMany
	return []segment{
		{"template a x:int y:int", wrongOf(twice, "^template a x:int x:int y:int", "^template a x:int y:int y:str")},
		{"template b z:int s:str", wrongOf(twice, "^template b z:int s:str z:int", "^template a x:int y:int\ntemplate b z:int s:str")},
		{"template c k:sym b:bool", wrongOf(twice, "^template a k:sym b:bool\ntemplate c k:sym b:bool", "^template c k:sym b:bool k:sym")},
		{"rule q when", nil},
		{"f: a(x: ?n)", join(wrongOf(none, "^d()", "f: ^d()", "a(^w: 1)"), wrongOf(scope, "f: a(x: > ^?n)"), wrongOf(kind, "a(y: ^\"u\")"))},
		{"then modify f(y: ?n) end", join(wrongOf(scope, "then ^retract g end", "then modify f(y: ^?m) end"), wrongOf(none, "then ^assert d() end", "then assert a(^k: 1) end"), wrongOf(kind, "then assert a(^x: \"u\") end"))},
		{"rule r 7 when", wrongOf(twice, "^rule q 7 when")},
		{"p: a(x: ?n,", join(wrongOf(none, "p: ^d(x: ?n,", "^d(x: ?n,", "p: a(^w: ?n,"), wrongOf(scope, "p: a(x: > ^?n,"), wrongOf(kind, "p: a(x: ? ^+ true,", "a(x: ^\"u\","))},
		{"y: > ?n)", join(wrongOf(none, "^z: > ?n)"), wrongOf(twice, "^x: > ?n)", "y: 1, ^x: ?n)"), wrongOf(scope, "y: > ^?m)", "y: 1, ^?s)"), wrongOf(kind, "y: ^= #a)", "y: 1, 2 ^+ \"u\")"))},
		{"q: b(z: ?n, s: ?s)", join(wrongOf(twice, "p: ^b(z: ?n, s: ?s)", "p: ^d(w: 1)", "q: b(z: ?n, s: ?s, ^z: ?s)"), wrongOf(none, "q: ^d()", "q: b(^x: ?n)", "q: b(z: 1, ^y: 1)"), wrongOf(kind, "q: b(^s: ?n)", "q: b(z: ?s, ^s: ?s)"), wrongOf(scope, "q: b(s: ^?s, \"u\")"))},
		{"not a(x: ?k, y: < ?k)", join(wrongOf(none, "not ^d(x: ?k)", "not a(^k: ?k)"), wrongOf(twice, "not a(x: ?k, ^x: \"u\")"), wrongOf(kind, "not a(^x: ?s)", "not a(x: ^> ?s)"), wrongOf(scope, "not a(x: > ^?k, y: ?k)"))},
		{"exists b(z: ?n, s: ?k)", join(wrongOf(none, "exists ^d()", "exists b(^y: 1)"), wrongOf(twice, "exists b(z: 1, ^z: 1)"), wrongOf(kind, "exists b(^s: ?n)", "exists b(s: ^1)"), wrongOf(scope, "exists b(s: not(^?k))"))},
		{"not (c(b: ?k)", join(wrongOf(none, "not (^d(b: ?k)", "not (c(^z: ?k)"), wrongOf(twice, "not (c(b: ?k, ^b: ?k)"), wrongOf(kind, "not (c(^k: ?n)", "not (c(b: ^1)"), wrongOf(scope, "not (c(b: not ^?k)"))},
		{"c(b: = not ?k))", join(wrongOf(none, "^d())", "c(^x: 1))"), wrongOf(twice, "c(b: true, ^b: 1))"), wrongOf(kind, "c(^k: ?n))", "c(k: ^1))"), wrongOf(scope, "c(k: = ^?m, 1))"))},
		{"test ?n > 1", join(wrongOf(kind, "^test ?n", "test ?n ^> ?s"), wrongOf(scope, "test ?n > 1 or ^?k", "test ^? = 1"))},
		{"then", nil},
		{"assert b(z: ?n,", join(wrongOf(none, "^assert d(z: ?n,", "assert b(^y: ?n,"), wrongOf(scope, "assert b(z: ^?k,", "assert b(z: ^?,"), wrongOf(kind, "assert b(^z: ?s,", "assert b(z: ?n ^+ ?s,"))},
		{"s: ?s)", join(wrongOf(none, "^x: 1)"), wrongOf(twice, "^z: ?s)", "s: ?s, ^z: 1)"), wrongOf(scope, "s: upper(^?k))"), wrongOf(kind, "^s: ?n)", "s: ^upper(?n))"))},
		{"logical a(x: ?n)", join(wrongOf(none, "^logical d()", "logical a(^z: ?n)"), wrongOf(twice, "logical a(x: 1, ^x: 1)"), wrongOf(scope, "logical a(x: ^?k)"), wrongOf(kind, "logical a(^x: 1.5)"))},
		{"modify p(y: ?n)", join(wrongOf(scope, "^modify f(y: ?n)", "^modify d(z: 1)", "modify p(y: ^?k)"), wrongOf(none, "modify p(^z: 1)"), wrongOf(twice, "modify p(y: 1, ^y: ?k)"), wrongOf(kind, "modify p(^y: ?s)"))},
		{"retract q", wrongOf(scope, "^retract f", "^retract b")},
		{"halt end rule s when a() a() a() a()", wrongOf(many, "halt end rule s when a() a() a() a() ^a()", "halt end rule s when p: a() a() a() a() ^p: d()")},
		{"then assert c(b: null, k: #u) end", join(wrongOf(none, "then ^assert d() end"), wrongOf(scope, "then assert c(b: ^?n) end", "then ^retract p end"))},
		{"rule t when then end", wrongOf(twice, "^rule q when then end", "^rule r when then end", "^rule s when a() then retract f end")},
	}
}

// textOf tells the program in which some segments are bad.
func textOf(l []segment, bad map[int]string) string {
	var lines []string
	for i, x := range l {
		s, ok := bad[i]
		if !ok {
			s = x.good
		}
		lines = append(lines, s)
	}
	return strings.Join(lines, "\n")
}

// P14.1: of any two things that are wrong the one ahead is met.
func TestWhichIsMetFirst(t *testing.T) {
	l := segments()
	fine(t, textOf(l, nil))
	for i, x := range l {
		for k, bad := range x.bad {
			met(t, textOf(l, map[int]string{i: bad.text}), bad.want)
			for j := i + 1; j < len(l); j++ {
				if n := len(l[j].bad); n > 0 {
					behind := strings.ReplaceAll(l[j].bad[(i+k)%n].text, "^", "")
					s, place := marked(t, textOf(l, map[int]string{i: bad.text, j: behind}))
					holdCheck(t, read(t, s), place, bad.want, s)
				}
			}
		}
	}
}

// P14.1: what is met first, where two things are wrong with one part.
func TestWhichIsMetFirstOfOnePart(t *testing.T) {
	// Templates are looked at ahead of rules, one by one; a rule's name ahead of
	// its conditions, these ahead of its actions.
	met(t, "template a x:int\n^template a x:int x:int rule r when d() then end rule r when then end", api.ErrTwice)
	met(t, "template a x:int\n^template b x:int x:int template a x:int rule r when d() then end", api.ErrTwice)
	met(t, "template a x:int rule r when ^d() then end rule r when then end", api.ErrNone)
	met(t, "template a x:int rule r when then ^assert d() end rule r when then end", api.ErrNone)
	met(t, "template a x:int rule r when then end ^rule r when d() then retract p end", api.ErrTwice)
	met(t, "template a x:int rule r when a() ^d() then retract p end", api.ErrNone)

	for _, x := range []wrongText{
		// A condition: how many there are, then its fact's name, then its pattern.
		{"p: a() a() a() a() ^p: c(w: 1) then halt", api.ErrMany},
		{"p: a() a() a() p: ^c(w: 1) then halt", api.ErrTwice},
		{"p: a() a() a() p: ^a(w: 1) then halt", api.ErrTwice},
		{"p: a() a() a() q: ^c(w: 1) then halt", api.ErrNone},

		// A slot: whether there is one, whether it stands twice, its tests.
		{"a(^w: \"u\" + 1) then halt", api.ErrNone},
		{"a(^w: > ?n, w: 1) then halt", api.ErrNone},
		{"a(x: 1, ^x: \"u\" + 1) then halt", api.ErrTwice},
		{"a(x: 1, ^x: > ?n) then halt", api.ErrTwice},
		{"b(s: ?s) a(y: 1, ^y: ?s) then halt", api.ErrTwice},
		{"a(x: 1, y: > ^?n, y: 1) then halt", api.ErrScope},
		{"a(x: 1, ^x: > ?n, w: 1) then halt", api.ErrTwice},
		{"b(s: ?s) a(^x: ?s, w: 1) then halt", api.ErrKind},
		{"b(s: ?s) a(^x: ?s, x: 1) then halt", api.ErrKind},
		{"a(x: ^\"u\", \"v\" + 1) then halt", api.ErrKind},
		{"a(x: [^?n .. \"u\" + 1]) then halt", api.ErrScope},
		{"a(x: > ?, y: [1 ^+ true .. ?n]) then halt", api.ErrKind},

		// A set likewise; its expression, and then its kind.
		{"then assert a(^w: ?n + \"u\")", api.ErrNone},
		{"then assert a(x: 1, ^x: ?n + \"u\")", api.ErrTwice},
		{"then assert a(x: 1, ^x: \"u\")", api.ErrTwice},
		{"then assert a(x: not ^?n, w: 1)", api.ErrScope},
		{"then assert a(x: \"u\" ^= 1, w: 1)", api.ErrKind},
		{"then assert a(x: 1 ^+ \"u\", x: 1)", api.ErrKind},
		{"then assert a(^x: \"u\", x: 1)", api.ErrKind},
		{"then assert a(^x: \"u\", y: ?n)", api.ErrKind},
		{"then assert a(x: ^?n)\n assert c()", api.ErrScope},
		{"then ^assert c(x: ?n, x: ?n)", api.ErrNone},
		{"then ^modify p(w: ?n, w: ?n)", api.ErrScope},
		{"p: a() then modify p(^w: ?n, w: ?n)", api.ErrNone},
		{"p: a() then modify p(^x: true, w: 1)", api.ErrKind},

		// A test: its expression, and then its kind.
		{"a() test 1 ^+ \"u\" then assert c()", api.ErrKind},
		{"a() ^test 1 + 2 then assert c()", api.ErrKind},
		{"test ^?n + \"u\" then assert c()", api.ErrScope},
		{"test \"u\" ^+ 1 = ?n then assert c()", api.ErrKind},
		{"a(x: ?n) ^test ?n then assert a(w: ?m)", api.ErrKind},
	} {
		metRule(t, x.text, x.want)
	}
}
