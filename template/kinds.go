package template

import "witan/api"

// KindName tells the name of a kind that slots may have; nothing of others.
func KindName(kind uint8) string {
	switch kind {
	case api.Int:
		return "int"
	case api.Dec:
		return "dec"
	case api.Str:
		return "str"
	case api.Bool:
		return "bool"
	case api.Sym:
		return "sym"
	}
	return ""
}

// Kind tells the kind with that name, and true; 0 and false, if there is none.
func Kind(name string) (uint8, bool) {
	for kind := api.Int; kind <= api.Sym; kind++ {
		if KindName(kind) == name {
			return kind, true
		}
	}
	return 0, false
}

func isSlotKind(kind uint8) bool { return KindName(kind) != "" }
