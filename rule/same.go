package rule

import (
	"slices"

	"witan/api"
	"witan/expr"
	"witan/unary"
)

// Same tells whether both are the same program, but for places.
func Same(a, b api.Program) bool {
	return slices.EqualFunc(a.Templates, b.Templates, sameTemplate) && slices.EqualFunc(a.Rules, b.Rules, sameRule)
}

func sameTemplate(a, b api.Template) bool {
	return a.Name == b.Name && slices.Equal(a.Slots, b.Slots)
}

func sameRule(a, b api.Rule) bool {
	return a.Name == b.Name && a.Salience == b.Salience &&
		slices.EqualFunc(a.Conds, b.Conds, sameCond) && slices.EqualFunc(a.Acts, b.Acts, sameAction)
}

func sameCond(a, b api.Cond) bool {
	return a.Kind == b.Kind && slices.EqualFunc(a.Patterns, b.Patterns, samePattern) && expr.Same(a.Test, b.Test)
}

func samePattern(a, b api.Pattern) bool {
	return a.Name == b.Name && a.T == b.T && slices.EqualFunc(a.Slots, b.Slots, sameSlotTest)
}

func sameSlotTest(a, b api.SlotTest) bool {
	return a.Slot == b.Slot && unary.Same(a.Test, b.Test)
}

func sameAction(a, b api.Action) bool {
	return a.Kind == b.Kind && a.Name == b.Name && slices.EqualFunc(a.Sets, b.Sets, sameSet)
}

func sameSet(a, b api.Set) bool {
	return a.Slot == b.Slot && expr.Same(a.E, b.E)
}
