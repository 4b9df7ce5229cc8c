package check

import (
	"reflect"
	"slices"
	"strings"
	"testing"
	"time"

	"witan/api"
	"witan/rprint"
	"witan/rule"
)

// same tells whether both are the same program, places too.
func same(p, q api.Program) bool { return reflect.DeepEqual(p, q) }

// P14.1: ErrForm and no place, if the program may not be, whatever else is
// wrong with it.
func TestProgramsThatMayNotBe(t *testing.T) {
	for _, s := range []string{
		full, strings.Replace(full, "template b", "template a", 1), strings.Replace(full, "rule r", "rule q", 1), strings.Replace(full, "exists b", "exists d", 1), strings.Replace(full, "?n > 1", "?x > 1", 1), strings.Replace(full, "retract q", "retract x", 1),
	} {
		for what, change := range map[string]func(p *api.Program){
			"a salience":                 func(p *api.Program) { p.Rules[1].Salience = 101 },
			"a salience of the first":    func(p *api.Program) { p.Rules[0].Salience = -500 },
			"a rule's name":              func(p *api.Program) { p.Rules[1].Name = "rule" },
			"a rule of no name":          func(p *api.Program) { p.Rules[1].Name = "" },
			"a template's name":          func(p *api.Program) { p.Templates[1].Name = "A" },
			"a template of no slots":     func(p *api.Program) { p.Templates[1].Slots = nil },
			"a slot's kind":              func(p *api.Program) { p.Templates[0].Slots[1].Kind = 0 },
			"a slot's great kind":        func(p *api.Program) { p.Templates[0].Slots[1].Kind = 6 },
			"no condition's kind":        func(p *api.Program) { p.Rules[1].Conds[0].Kind = 0 },
			"a condition's kind":         func(p *api.Program) { p.Rules[1].Conds[0].Kind = 6 },
			"a kind of one pattern":      func(p *api.Program) { p.Rules[1].Conds[4].Kind = api.CondNot },
			"a kind of patterns":         func(p *api.Program) { p.Rules[1].Conds[5].Kind = api.CondIs },
			"a kind of no pattern":       func(p *api.Program) { p.Rules[1].Conds[0].Kind = api.CondTest },
			"no pattern":                 func(p *api.Program) { p.Rules[1].Conds[1].Patterns = nil },
			"no pattern of a group":      func(p *api.Program) { p.Rules[1].Conds[4].Patterns = nil },
			"two patterns":               func(p *api.Program) { c := &p.Rules[1].Conds[1]; c.Patterns = append(c.Patterns, c.Patterns[0]) },
			"a fact's name of a not":     func(p *api.Program) { p.Rules[1].Conds[2].Patterns[0].Name = "f" },
			"a fact's name in a group":   func(p *api.Program) { p.Rules[1].Conds[4].Patterns[1].Name = "f" },
			"a fact's name that is none": func(p *api.Program) { p.Rules[1].Conds[0].Patterns[0].Name = "not" },
			"no tests":                   func(p *api.Program) { p.Rules[1].Conds[0].Patterns[0].Slots[0].Test = nil },
			"no expression of a test":    func(p *api.Program) { p.Rules[1].Conds[5].Test = nil },
			"an action's kind":           func(p *api.Program) { p.Rules[1].Acts[0].Kind = 6 },
			"no action's kind":           func(p *api.Program) { p.Rules[1].Acts[0].Kind = 0 },
			"a retract that sets":        func(p *api.Program) { p.Rules[1].Acts[2].Kind = api.ActRetract },
			"a halt of a name":           func(p *api.Program) { p.Rules[0].Acts[0].Name = "q" },
			"an action's name":           func(p *api.Program) { p.Rules[1].Acts[3].Name = "" },
			"a set's slot":               func(p *api.Program) { p.Rules[1].Acts[0].Sets[0].Slot = "X" },
			"no expression of a set":     func(p *api.Program) { p.Rules[1].Acts[0].Sets[0].E = nil },
			"too many rules":             func(p *api.Program) { p.Rules = append(p.Rules, slices.Repeat(p.Rules[:1], api.MaxRules)...) },
			"too many templates":         func(p *api.Program) { p.Templates = slices.Repeat(p.Templates[:1], api.MaxTemplates+1) },
			"too many conditions":        func(p *api.Program) { r := &p.Rules[1]; r.Conds = append(r.Conds, r.Conds[2]) },
			"too many actions":           func(p *api.Program) { r := &p.Rules[1]; r.Acts = slices.Repeat(r.Acts[:1], api.MaxActs+1) },
			"too many patterns": func(p *api.Program) {
				c := &p.Rules[1].Conds[4]
				c.Patterns = slices.Repeat(c.Patterns[:1], api.MaxGroup+1)
			},
			"too many sets":               func(p *api.Program) { a := &p.Rules[1].Acts[0]; a.Sets = slices.Repeat(a.Sets[:1], api.MaxSlots+1) },
			"a literal that may not be":   func(p *api.Program) { p.Rules[1].Acts[0].Sets[1].E[0].V.Kind = 9 },
			"a variable that is no name":  func(p *api.Program) { p.Rules[1].Acts[0].Sets[0].E[0].Name = "" },
			"a part that is not told of":  func(p *api.Program) { p.Rules[1].Conds[0].Test = p.Rules[1].Conds[5].Test },
			"another part that is not so": func(p *api.Program) { p.Rules[1].Conds[5].Patterns = p.Rules[1].Conds[0].Patterns },
		} {
			p := read(t, s)
			change(&p)
			if rprint.May(p) {
				t.Errorf("it may be: %s", what)
			}
			holdCheck(t, p, api.Place{}, api.ErrForm, what)
		}
	}
}

// sized is a program of rules whose text, which it is, has that many bytes.
func sized(t *testing.T, size int) string {
	t.Helper()
	const sets = 5 * api.MaxActs * api.MaxSlots
	write := func(filled int) string {
		var s strings.Builder
		s.WriteString("template a s0:str s1:str s2:str s3:str s4:str s5:str s6:str s7:str\n")
		for i := range sets {
			if i%64 == 0 {
				s.WriteString("rule r" + string(rune('0'+i/64)) + "\nwhen\nthen\n")
			}
			if i%8 == 0 {
				s.WriteString("  assert a(")
			}
			n := min(filled, api.MaxText)
			filled -= n
			s.WriteString("s" + string(rune('0'+i%8)) + ": \"" + strings.Repeat("x", n) + "\"")
			switch {
			case i%64 == 63:
				s.WriteString(")\nend\n")
			case i%8 == 7:
				s.WriteString(")\n")
			default:
				s.WriteString(", ")
			}
		}
		return s.String()
	}
	s := write(size - len(write(0)))
	if len(s) != size {
		t.Fatalf("%d bytes; want %d", len(s), size)
	}
	return s
}

// P14.1, P14.2: a program whose text is as long as a source, and one byte longer.
func TestLongPrograms(t *testing.T) {
	none := api.Place{}
	narrow := func(s string) string { return strings.ReplaceAll(s, ": ", ":") }
	wrong := func(s string) string { return strings.Replace(s, "assert a(", "assert d(", 1) }
	for _, n := range []int{20000, 60000, api.MaxSource - 1, api.MaxSource} {
		s := sized(t, n)
		fine(t, s)
		fine(t, narrow(s))
		at := api.Place{Line: 5, Col: 3}
		holdCheck(t, read(t, wrong(s)), at, api.ErrNone, "a long program")
		holdSource(t, wrong(s), at, api.ErrNone)
		holdSource(t, wrong(narrow(s)), at, api.ErrNone)
	}
	for _, n := range []int{api.MaxSource + 1, api.MaxSource + 200} {
		s := sized(t, n)
		holdSource(t, s, none, api.ErrLong)
		holdSource(t, wrong(s), none, api.ErrLong)
		for _, s := range []string{narrow(s), wrong(narrow(s))} {
			holdCheck(t, read(t, s), none, api.ErrForm, "a program that is too long")
			holdSource(t, s, none, api.ErrForm)
		}
	}
}

// P14.2: of a text that layer 12 does not read its error and its place,
// whatever else is wrong ahead.
func TestTextsThatAreNotRead(t *testing.T) {
	for _, ahead := range []string{
		"", "template a x:int\n", "template a x:int template a x:int x:int\n", "; a remark\n",
	} {
		for _, x := range []wrongText{
			{"^1", api.ErrForm}, {"^%", api.ErrForm}, {"template b ^rule", api.ErrForm}, {"rule^", api.ErrForm}, {"rule r ^101 when then end", api.ErrForm}, {"rule r when ^1 then end", api.ErrForm}, {"rule r when then ^go end", api.ErrForm}, {"rule r when then end ^end", api.ErrForm},
			{"rule r when a(x: ^9223372036854775808) then end", api.ErrOver}, {"rule r when a(x: mod(1^)) then end", api.ErrMany}, {"rule r when a() a() a() a() a() a() ^a() then end", api.ErrMany}, {"rule r when test ((((((((((((^(1 then end", api.ErrDepth}, {"rule r when test ^1" + strings.Repeat(" + 1", 30) + " then end", api.ErrFull},
			{"rule r when d() then retract p end rule r when then assert d(x: ^) end", api.ErrForm}, {"rule r when a(w: > ?n, w: 1) then ^a end", api.ErrForm}, {"rule r when then end rule r when then^ ", api.ErrForm}, {"rule r when a() a() a() a() a() then halt^ ", api.ErrForm},
		} {
			s, place := marked(t, ahead+x.text)
			if _, at, e := rule.Parse(s); at != place || e != x.want {
				t.Fatalf("rule.Parse(%q): %v, %d", s, at, e)
			}
			holdSource(t, s, place, x.want)
		}
	}
	holdSource(t, strings.Repeat(" ", api.MaxSource+1), api.Place{}, api.ErrLong)
	holdSource(t, "template a x:int x:int"+strings.Repeat(" ", api.MaxSource), api.Place{}, api.ErrLong)
	fine(t, "template a x:int"+strings.Repeat(" ", api.MaxSource-16))
	for _, s := range []string{"\x00", "\xff", "rule r when\ttest true then end", strings.Repeat("(", api.MaxSource), strings.Repeat("rule ", 1<<13), "\""} {
		_, at, e := rule.Parse(s)
		if e == api.OK {
			t.Errorf("it is read: %.100q", s)
		}
		holdSource(t, s, at, e)
	}
	// A text cut at each byte, and with a byte in the place of each.
	for i := range full {
		for _, s := range []string{full[:i], full[:i] + full[i+1:], full[:i] + "x" + full[i+1:], full[:i] + "%" + full[i:]} {
			p, at, e := rule.Parse(s)
			if e == api.OK {
				w := holdModel(t, p)
				at, e = w.at, w.e
			}
			holdSource(t, s, at, e)
		}
	}
}

// P14.1: places are told as the program has them; a template that has none has
// none.
func TestPlaces(t *testing.T) {
	s := "template a x:int template b x:int template a y:int rule r when then end"
	p := read(t, s)
	none, some := api.Place{}, api.Place{Line: -7, Col: 1 << 40}
	for _, x := range []struct {
		l    []api.Place
		want api.Place
	}{
		{nil, none}, {[]api.Place{}, none}, {[]api.Place{some}, none}, {[]api.Place{some, some}, none}, {[]api.Place{{}, {}, some}, some}, {[]api.Place{{}, {}, some, {}}, some}, {make([]api.Place, 3), none}, {append([]api.Place{{}, {}, some}, make([]api.Place, 100000)...), some},
	} {
		p.At = x.l
		holdCheck(t, p, x.want, api.ErrTwice, "templates with other places")
		q := p
		q.Templates = p.Templates[:2]
		holdCheck(t, q, none, api.OK, "templates with other places")
	}
	// All other places, one by one, as if they were none's.
	for i, x := range segments() {
		for _, bad := range x.bad {
			s, place := marked(t, textOf(segments(), map[int]string{i: bad.text}))
			p := read(t, s)
			n := 0
			for _, v := range partsOf(&p) {
				if at, ok := v.Addr().Interface().(*api.Place); ok {
					if *at == place {
						n++
						*at = some
					} else {
						*at = api.Place{Line: 1, Col: 1}
					}
				}
			}
			if n == 0 {
				t.Fatalf("no such place in %q", s)
			}
			holdCheck(t, p, some, bad.want, s)
		}
	}
}

// P1: programs of very many parts.
func TestVeryMany(t *testing.T) {
	const many = 1 << 17
	name := strings.Repeat("a", 1<<22)
	p := read(t, full)
	begun := time.Now()
	for what, q := range map[string]api.Program{
		"rules":       {Templates: p.Templates, Rules: slices.Repeat(p.Rules, many)},
		"templates":   {Templates: slices.Repeat(p.Templates, many), Rules: p.Rules},
		"conditions":  {Templates: p.Templates, Rules: []api.Rule{{Name: "r", Conds: slices.Repeat(p.Rules[1].Conds, many)}}},
		"actions":     {Templates: p.Templates, Rules: []api.Rule{{Name: "r", Acts: slices.Repeat(p.Rules[1].Acts, many)}}},
		"empty rules": {Rules: make([]api.Rule, many)},
		"a name":      {Rules: []api.Rule{{Name: name}}},
		"names":       {Templates: slices.Repeat([]api.Template{{Name: name, Slots: []api.Slot{{Name: name, Kind: 1}}}}, many)},
	} {
		holdCheck(t, q, api.Place{}, api.ErrForm, "very many "+what)
	}
	if d := time.Since(begun); d > 20*time.Second {
		t.Errorf("it took %v", d)
	}
}

// What Check and Source are handed stays; what Source tells may be written
// over, and is told again.
func TestProgramsAreOnesOwn(t *testing.T) {
	for _, s := range []string{full, "", head, head + "rule r when not (a(x: ?n) b(z: ?n)) then halt end"} {
		p := read(t, s)
		for range 3 {
			q, at, e := Source(s)
			if !same(p, q) || at != (api.Place{}) || e != api.OK {
				t.Fatalf("Source(%q) = %v, %v, %d; want %v", s, q, at, e, p)
			}
			holdCheck(t, p, api.Place{}, api.OK, s)
			spoil(&q)
			if !same(p, read(t, s)) {
				t.Fatalf("%v; want %v", p, read(t, s))
			}
		}
	}
	for i, x := range segments() {
		for _, bad := range x.bad {
			s, place := marked(t, textOf(segments(), map[int]string{i: bad.text}))
			p := read(t, s)
			for range 2 {
				holdCheck(t, p, place, bad.want, s)
			}
			if !same(p, read(t, s)) {
				t.Fatalf("%v; want %v", p, read(t, s))
			}
		}
	}
}

// spoil writes over all of a program.
func spoil(p *api.Program) {
	l := partsOf(p)
	slices.Reverse(l)
	for _, v := range l {
		if v.Kind() == reflect.Slice {
			_ = reflect.AppendSlice(v.Slice(0, 0), reflect.MakeSlice(v.Type(), v.Cap(), v.Cap()))
		} else {
			v.SetZero()
		}
	}
}
