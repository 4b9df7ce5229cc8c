package table

import "witan/api"

// policyWords has the policies' words, by their numbers.
var policyWords = [...]string{
	api.PolUnique:   "unique",
	api.PolFirst:    "first",
	api.PolPriority: "priority",
	api.PolAny:      "any",
	api.PolOrder:    "order",
	api.PolCollect:  "collect",
	api.PolSum:      "sum",
	api.PolMin:      "min",
	api.PolMax:      "max",
	api.PolCount:    "count",
}

// policyOf tells the policy with that word; 0, if there is none.
func policyOf(word string) uint8 {
	for p, its := range policyWords {
		if its == word {
			return uint8(p)
		}
	}
	return 0
}

// policyWord tells a policy's word; nothing of what is none.
func policyWord(p uint8) string {
	if int(p) < len(policyWords) {
		return policyWords[p]
	}
	return ""
}
