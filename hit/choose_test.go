package hit

import (
	"slices"
	"strings"
	"testing"

	"witan/api"
)

// choosing is a table of that policy, whose outputs are z of that kind and more
// slots.
func choosing(t *testing.T, policy, kind string, more ...string) api.Table {
	t.Helper()
	return tableOf(t, "table t "+policy+" in x:int out z:"+kind+" "+strings.Join(more, " ")+" end")
}

// P16.2: one row or none.
func TestUnique(t *testing.T) {
	a := choosing(t, "unique", "int")
	chooses(t, a, "", "", api.OK)
	for _, one := range []string{"1", "null", "-9223372036854775808"} {
		chooses(t, a, one, one, api.OK)
	}
	for _, more := range []string{"1/1", "1/2", "null/null", "1/null", "null/1", "1/1/1", "1/2/3", "1" + strings.Repeat("/1", 31)} {
		chooses(t, a, more, "", api.ErrTwice)
	}
	b := choosing(t, "unique", "str", "w:sym", "u:bool", "v:dec")
	chooses(t, b, `"a" #b true 1.5`, `"a" #b true 1.5`, api.OK)
	chooses(t, b, `null null null null`, `null null null null`, api.OK)
	chooses(t, b, `"a" #b true 1.5/"a" #b true 1.5`, "", api.ErrTwice)
}

// P16.2: the first row.
func TestFirst(t *testing.T) {
	a := choosing(t, "first", "int")
	chooses(t, a, "", "", api.OK)
	chooses(t, a, "1", "1", api.OK)
	chooses(t, a, "null", "null", api.OK)
	chooses(t, a, "null/1", "null", api.OK)
	chooses(t, a, "2/1/3", "2", api.OK)
	chooses(t, a, "2/2", "2", api.OK)
	chooses(t, choosing(t, "first", "str", "w:sym"), `"b" #a/"a" #b`, `"b" #a`, api.OK)
}

// P16.2: the row whose first value is the most important one.
func TestPriority(t *testing.T) {
	a := choosing(t, "priority 2 -1 7", "int")
	for rows, want := range map[string]string{
		"":                 "",
		"1":                "1",
		"null":             "null",
		"2":                "2",
		"2/-1":             "2",
		"-1/2":             "2",
		"7/-1":             "-1",
		"-1/7":             "-1",
		"7/-1/2":           "2",
		"2/7/-1":           "2",
		"7/2/-1":           "2",
		"1/7":              "7",
		"7/1":              "7",
		"null/7":           "7",
		"7/null":           "7",
		"1/null":           "1",
		"null/1":           "null",
		"3/1/0":            "3",
		"0/1/3/null":       "0",
		"1/null/-1/0/7/-1": "-1",
		"-2/-7/-1":         "-1",
		"2/2":              "2",
	} {
		chooses(t, a, rows, want, api.OK)
	}
	// Of several outputs the first one alone counts; of rows that have one value, the first row.
	b := choosing(t, "priority #c #a #b", "sym", "w:int", "v:sym")
	for rows, want := range map[string]string{
		"#a 1 #c/#b 2 #a":                 "#a 1 #c",
		"#b 1 #c/#a 2 #b":                 "#a 2 #b",
		"#a 2 #a/#a 1 #c":                 "#a 2 #a",
		"#a 1 #a/#a 2 #a":                 "#a 1 #a",
		"#b 9 #c/#a 3 #c/#a 1 #c/#a 2 #c": "#a 3 #c",
		"#d 3 #c/#e 1 #c/null 2 #c":       "#d 3 #c",
		"null 3 #c/#e 1 #c/#d 2 #c":       "null 3 #c",
		"null 3 #c/null 1 #a":             "null 3 #c",
		"null null null/#b null null":     "#b null null",
		"#b 1 #b/#c 2 #b/#c 1 #a":         "#c 2 #b",
	} {
		chooses(t, b, rows, want, api.OK)
	}
	// Values of the list are of each kind, and the last one of many counts.
	for kind, rows := range map[string]string{"int": "4/-3/5", "dec": "0.5/-1.5/5.0", "str": `"a"/""/"A"`, "sym": "#a/#z/#m"} {
		l := strings.Split(rows, "/")
		chooses(t, choosing(t, "priority "+l[1]+" "+l[0], kind), rows, l[1], api.OK)
		chooses(t, choosing(t, "priority "+l[2]+" "+l[1]+" "+l[0], kind), rows, l[2], api.OK)
		chooses(t, choosing(t, "priority "+l[2], kind), rows, l[2], api.OK)
		chooses(t, choosing(t, "priority "+l[1], kind), l[0]+"/"+l[2], l[0], api.OK)
	}
	chooses(t, choosing(t, "priority false true", "bool"), "true/false", "false", api.OK)
	chooses(t, choosing(t, "priority true false", "bool"), "false/true", "true", api.OK)
	chooses(t, choosing(t, "priority true", "bool"), "false/null/true", "true", api.OK)
	many := "priority"
	for i := range 32 {
		many += " " + string(rune('0'+i/10)) + "." + string(rune('0'+i%10))
	}
	chooses(t, choosing(t, many, "dec"), "3.2/3.1/3.0", "3.0", api.OK)
	chooses(t, choosing(t, many, "dec"), "3.2/3.1/9.0", "3.1", api.OK)
}

// P16.2: rows that are all the same.
func TestAny(t *testing.T) {
	a := choosing(t, "any", "int")
	chooses(t, a, "", "", api.OK)
	chooses(t, a, "1", "1", api.OK)
	chooses(t, a, "1/1", "1", api.OK)
	chooses(t, a, "1/1/1", "1", api.OK)
	chooses(t, a, "null/null", "null", api.OK)
	for _, rows := range []string{"1/2", "2/1", "1/null", "null/1", "1/1/2", "1/2/1", "2/1/1", "null/null/0", "null/0/null", "0/null/null", "1/2/2", "1/2/1/2"} {
		chooses(t, a, rows, "", api.ErrTwice)
	}
	b := choosing(t, "any", "int", "w:dec", "v:str", "u:bool")
	same := `1 1.5 "a" true`
	chooses(t, b, same+"/"+same+"/"+same, same, api.OK)
	for i, others := range [][]string{{"2", "-1", "null"}, {"1.0", "null"}, {`"b"`, `"A"`, `""`, "null"}, {"false", "null"}} {
		for _, other := range others {
			l := strings.Fields(same)
			l[i] = other
			unlike := strings.Join(l, " ")
			chooses(t, b, unlike+"/"+unlike, unlike, api.OK)
			for at := range 3 {
				rows := slices.Repeat([]string{same}, 3)
				rows[at] = unlike
				chooses(t, b, strings.Join(rows, "/"), "", api.ErrTwice)
			}
			chooses(t, b, same+"/"+unlike, "", api.ErrTwice)
		}
	}
	chooses(t, choosing(t, "any", "sym"), "#a/#a", "#a", api.OK)
	chooses(t, choosing(t, "any", "sym"), "#a/#b", "", api.ErrTwice)
}

// P16.2: all rows, in their order.
func TestAll(t *testing.T) {
	for _, policy := range []string{"order", "collect"} {
		a := choosing(t, policy, "int")
		for _, rows := range []string{"", "1", "null", "1/1", "3/1/2/1", "null/1/null", "1" + strings.Repeat("/2/1/null", 40)} {
			chooses(t, a, rows, rows, api.OK)
		}
		rows := `"b" true/"a" false/"b" true/null null`
		chooses(t, choosing(t, policy, "str", "w:bool"), rows, rows, api.OK)
	}
}

// P16.2: numbers are added from the first one on.
func TestSum(t *testing.T) {
	a := choosing(t, "sum", "int")
	const most, least = "9223372036854775807", "-9223372036854775808"
	for rows, want := range map[string]string{
		"":                              "null",
		"null":                          "null",
		"null/null/null":                "null",
		"5":                             "5",
		"0":                             "0",
		"1/2":                           "3",
		"1/-1":                          "0",
		"1/2/3/4":                       "10",
		"null/5":                        "5",
		"5/null":                        "5",
		"null/1/null/null/2/null":       "3",
		"0/null/0":                      "0",
		most + "/0":                     most,
		most + "/-1/1":                  most,
		most + "/" + least + "/1":       "0",
		"-1/" + most + "/1":             most,
		least + "/" + most + "/-3/null": "-4",
	} {
		chooses(t, a, rows, want, api.OK)
	}
	for _, rows := range []string{most + "/1", "1/" + most, most + "/null/1/-1", most + "/1/-1", least + "/-1", least + "/-1/1", "1/1/null/" + most, least + "/" + least} {
		chooses(t, a, rows, "", api.ErrOver)
	}
	d := choosing(t, "sum", "dec")
	for rows, want := range map[string]string{
		"":                        "null",
		"null":                    "null",
		"1.5":                     "1.5",
		"1.5/2.5001":              "4.0001",
		"0.0001/-0.0002":          "-0.0001",
		"null/0.0/null":           "0.0",
		"922337203685477.5807":    "922337203685477.5807",
		"922337203685477.5/0.08":  "922337203685477.58",
		"-1.0/-2.0/null/-0.5":     "-3.5",
		"-922337203685477.58/0.1": "-922337203685477.48",
	} {
		chooses(t, d, rows, want, api.OK)
	}
	chooses(t, d, "922337203685477.5807/0.0001", "", api.ErrOver)
	chooses(t, d, "922337203685477.5807/0.0001/-1.0", "", api.ErrOver)
	chooses(t, d, "-922337203685477.5808/-0.0001", "", api.ErrOver)
}

// P16.2: the least and the greatest value of each kind.
func TestMinMax(t *testing.T) {
	for kind, x := range map[string]struct{ rows, least, greatest string }{
		"int":  {"3/-5/null/10/9", "-5", "10"},
		"dec":  {"0.5/-10.5/2.25/null/-0.0001", "-10.5", "2.25"},
		"str":  {`"b"/"ab"/null/"B"/"abc"`, `"B"`, `"b"`},
		"bool": {"true/null/false/true", "false", "true"},
		"sym":  {"#b/#ab/#abc/null/#z1/#z", "#ab", "#z1"},
	} {
		least, greatest := choosing(t, "min", kind), choosing(t, "max", kind)
		l := strings.Split(x.rows, "/")
		for i := range l { // whichever stands first
			rows := strings.Join(append(slices.Clone(l[i:]), l[:i]...), "/")
			chooses(t, least, rows, x.least, api.OK)
			chooses(t, greatest, rows, x.greatest, api.OK)
			slices.Reverse(l)
			chooses(t, least, strings.Join(l, "/"), x.least, api.OK)
			chooses(t, greatest, strings.Join(l, "/"), x.greatest, api.OK)
			slices.Reverse(l)
		}
		for _, a := range []api.Table{least, greatest} {
			chooses(t, a, "", "null", api.OK)
			chooses(t, a, "null", "null", api.OK)
			chooses(t, a, "null/null", "null", api.OK)
			chooses(t, a, l[0], l[0], api.OK)
			chooses(t, a, l[0]+"/"+l[0], l[0], api.OK)
			chooses(t, a, "null/"+l[0], l[0], api.OK)
			chooses(t, a, l[0]+"/null/null", l[0], api.OK)
		}
	}
	ends := "0/9223372036854775807/-9223372036854775808"
	chooses(t, choosing(t, "min", "int"), ends, "-9223372036854775808", api.OK)
	chooses(t, choosing(t, "max", "int"), ends, "9223372036854775807", api.OK)
	chooses(t, choosing(t, "min", "str"), `"b"/""/"a"`, `""`, api.OK)
}

// P16.2: how many rows there are, Null among them, too.
func TestCount(t *testing.T) {
	for kind, v := range map[string]string{"int": "7", "dec": "1.5", "str": `"a"`, "bool": "true", "sym": "#a"} {
		a := choosing(t, "count", kind)
		chooses(t, a, "", "0", api.OK)
		chooses(t, a, v, "1", api.OK)
		chooses(t, a, "null", "1", api.OK)
		chooses(t, a, v+"/"+v, "2", api.OK)
		chooses(t, a, v+"/null/"+v+"/null/null", "5", api.OK)
		chooses(t, a, v+strings.Repeat("/"+v, 31), "32", api.OK)
		chooses(t, a, v+strings.Repeat("/"+v, 332), "333", api.OK)
		b := choosing(t, "count", "str", "w:"+kind)
		chooses(t, b, "", "0", api.OK)
		chooses(t, b, "null "+v+`/"a" null/null null`, "3", api.OK)
	}
}

// P16.2: rows that are none of the outputs' values, of each policy, wherever
// they stand.
func TestNoSuchOutputs(t *testing.T) {
	for _, policy := range policyWords() {
		a := choosing(t, policy, "int")
		for _, wrong := range []string{"1.0", `"a"`, "true", "#a", "1 1", "null null", "1 null", "1 1 1 1 1"} {
			for _, rows := range []string{wrong, "2/" + wrong, wrong + "/2", "2/3/" + wrong, "null/" + wrong, "2/" + wrong + "/3", wrong + "/" + wrong} {
				chooses(t, a, rows, "", api.ErrArg)
			}
		}
		for _, wrong := range append(wrongRows(), nil, []api.Value{}) {
			for at := range 3 {
				l := rowsOf("1/2/3")
				l[at] = wrong
				got, e := Choose(a, l)
				holdRows(t, got, e, nil, api.ErrArg, "Choose(%v, %v)", a, l)
			}
		}
	}
	// Each of several outputs is asked.
	kinds := []string{"int", "dec", "str", "bool", "sym"}
	texts := []string{"1", "1.0", `"a"`, "true", "#a", "null"}
	for n := 2; n <= 4; n++ {
		for k, kind := range kinds {
			var more []string
			for i := 1; i < n; i++ {
				more = append(more, "w"+string(rune('0'+i))+":"+kind)
			}
			a := choosing(t, "collect", kind, more...)
			for i := range n {
				for k2, text := range texts {
					l := slices.Repeat([]string{texts[k]}, n)
					l[i] = text
					row := strings.Join(l, " ")
					if k2 == k || text == "null" {
						chooses(t, a, row, row, api.OK)
					} else {
						chooses(t, a, row, "", api.ErrArg)
						chooses(t, a, strings.Repeat(texts[k]+" ", n)+"/"+row, "", api.ErrArg)
					}
				}
				for _, v := range mayNot() {
					l := slices.Repeat([]api.Value{one(texts[k])}, n)
					l[i] = v
					got, e := Choose(a, [][]api.Value{l})
					holdRows(t, got, e, nil, api.ErrArg, "Choose(%v, %v)", a, l)
				}
			}
			for size := range 6 {
				if size != n {
					l := slices.Repeat([]api.Value{one(texts[k])}, size)
					got, e := Choose(a, [][]api.Value{l})
					holdRows(t, got, e, nil, api.ErrArg, "Choose(%v, %v)", a, l)
				}
			}
		}
	}
}

// wrongRows are rows of one value that may not be.
func wrongRows() [][]api.Value {
	var l [][]api.Value
	for _, v := range mayNot() {
		l = append(l, []api.Value{v})
	}
	return l
}

// What follows: where unique has an answer, it is that of first, any and order.
func TestUniqueIsTheOthers(t *testing.T) {
	for _, rows := range []string{"", "1", "null", "1/1", "1/2", "null/null"} {
		l, e := Choose(choosing(t, "unique", "int"), rowsOf(rows))
		if e != api.OK {
			continue
		}
		for _, policy := range []string{"first", "any", "order"} {
			l2, e2 := Choose(choosing(t, policy, "int"), rowsOf(rows))
			holdRows(t, l2, e2, l, e, "%s of %s", policy, rows)
		}
	}
}
