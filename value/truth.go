package value

import "witan/api"

// Truth tells a truth as a Bool.
func Truth(is bool) api.Value {
	if is {
		return api.Value{Kind: api.Bool, N: 1}
	}
	return api.Value{Kind: api.Bool}
}

// All tells false, if one is; else Null, if one is no Bool; else true.
func All(l ...api.Value) api.Value {
	return unless(0, l)
}

// Any tells true, if one is; else Null, if one is no Bool; else false.
func Any(l ...api.Value) api.Value {
	return unless(1, l)
}

// Not tells the other one of a Bool; Null of all others.
func Not(a api.Value) api.Value {
	if a.Kind != api.Bool {
		return api.Value{}
	}
	return Truth(a.N == 0)
}

// unless tells the Bool whose N settles it, if it is there; else Null, if one
// is no Bool; else the other Bool. No one is passed over: the one that settles
// it may stand behind a Null.
func unless(settles int64, l []api.Value) api.Value {
	known := true
	for _, v := range l {
		if v.Kind != api.Bool {
			known = false
		} else if v.N == settles {
			return Truth(settles == 1)
		}
	}
	if !known {
		return api.Value{}
	}
	return Truth(settles == 0)
}
