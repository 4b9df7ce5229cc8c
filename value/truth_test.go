package value

import (
	"testing"

	"witan/api"
)

// P2.3

func TestTruth(t *testing.T) {
	if Truth(true) != truth(1) || Truth(false) != truth(0) {
		t.Error(Truth(true), Truth(false))
	}
}

func TestAllAndAny(t *testing.T) {
	yes, no := truth(1), truth(0)
	for _, x := range []struct {
		l        []api.Value
		all, any api.Value
	}{
		{nil, yes, no}, {[]api.Value{}, yes, no},
		{[]api.Value{yes}, yes, yes}, {[]api.Value{no}, no, no}, {[]api.Value{null()}, null(), null()}, {[]api.Value{whole(1)}, null(), null()}, {[]api.Value{whole(0)}, null(), null()},
		{[]api.Value{yes, yes}, yes, yes}, {[]api.Value{no, no}, no, no}, {[]api.Value{yes, no}, no, yes}, {[]api.Value{no, yes}, no, yes},
		{[]api.Value{yes, null()}, null(), yes}, {[]api.Value{null(), yes}, null(), yes}, {[]api.Value{no, null()}, no, null()}, {[]api.Value{null(), no}, no, null()},
		{[]api.Value{yes, null(), no}, no, yes}, {[]api.Value{null(), yes, no}, no, yes}, {[]api.Value{yes, yes, yes, no}, no, yes}, {[]api.Value{no, no, no, yes}, no, yes},
		{[]api.Value{text("a"), no}, no, null()}, {[]api.Value{sym("true"), yes}, null(), yes}, {[]api.Value{dec(0), whole(1)}, null(), null()}, {[]api.Value{yes, text("")}, null(), yes},
		{[]api.Value{{Kind: 6}, no}, no, null()}, {[]api.Value{{Kind: 255, N: 1}, yes}, null(), yes}, {[]api.Value{{N: 1}}, null(), null()}, {[]api.Value{{S: "a"}, yes}, null(), yes},
		// a Bool whose N is neither is a Bool, but neither of the two that settle it
		{[]api.Value{truth(2)}, yes, no}, {[]api.Value{truth(-1), null()}, null(), null()}, {[]api.Value{truth(2), no}, no, no}, {[]api.Value{truth(2), yes}, yes, yes},
	} {
		if got := All(x.l...); got != x.all {
			t.Errorf("All(%#v) = %#v, want %#v", x.l, got, x.all)
		}
		if got := Any(x.l...); got != x.any {
			t.Errorf("Any(%#v) = %#v, want %#v", x.l, got, x.any)
		}
	}
}

func TestNot(t *testing.T) {
	if Not(truth(0)) != truth(1) || Not(truth(1)) != truth(0) {
		t.Error(Not(truth(0)), Not(truth(1)))
	}
	for _, v := range all() {
		if v.Kind != api.Bool && Not(v) != null() {
			t.Errorf("Not(%#v) = %#v, want Null", v, Not(v))
		}
		if v.Kind == api.Bool && Not(v) != truth(0) && Not(v) != truth(1) {
			t.Errorf("Not(%#v) = %#v, want a Bool that may be", v, Not(v))
		}
	}
}

// modelSettled reads the chapter's words one by one, each through the whole list.
func modelSettled(l []api.Value, settles int64) api.Value {
	for _, v := range l {
		if v.Kind == api.Bool && v.N == settles {
			return truth(settles)
		}
	}
	for _, v := range l {
		if v.Kind != api.Bool {
			return null()
		}
	}
	return truth(1 - settles)
}

func TestAllAndAnyAgainstModel(t *testing.T) {
	l := all()
	for _, a := range l {
		for _, b := range l {
			for _, c := range []api.Value{truth(0), truth(1), null(), whole(1), truth(2)} {
				three := []api.Value{a, b, c}
				if got, want := All(three...), modelSettled(three, 0); got != want {
					t.Errorf("All(%#v) = %#v, want %#v", three, got, want)
				}
				if got, want := Any(three...), modelSettled(three, 1); got != want {
					t.Errorf("Any(%#v) = %#v, want %#v", three, got, want)
				}
			}
		}
	}
}

// 'What follows' of the chapter: All and Any are each other's with Not, of values that may be, and hang on no order.
func TestAllAndAnyWithNot(t *testing.T) {
	l := proper()
	for _, a := range l {
		for _, b := range l {
			if All(a, b) != Not(Any(Not(a), Not(b))) || Any(a, b) != Not(All(Not(a), Not(b))) {
				t.Errorf("All, Any of %#v, %#v are not each other's with Not", a, b)
			}
			if All(a, b) != All(b, a) || Any(a, b) != Any(b, a) {
				t.Errorf("All, Any of %#v, %#v hang on the order", a, b)
			}
		}
	}
}
