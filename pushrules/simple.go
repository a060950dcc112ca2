package pushrules

import (
	"slices"

	"fedchat/api"
)

func always() api.Cond {
	return api.Cond{Op: api.Always}
}

// never is the condition that does not hold for anything.
func never() api.Cond {
	return api.Cond{Op: api.NotSo, Kids: []api.Cond{always()}}
}

// Same reports whether two conditions are equal.
func Same(a, b api.Cond) bool {
	return a.Op == b.Op && a.Text == b.Text && a.N == b.N && slices.EqualFunc(a.Kids, b.Kids, Same)
}

// Simple returns the normal form of a condition.
func Simple(c api.Cond) api.Cond {
	switch c.Op {
	case api.AllOf:
		return simpleList(c, always(), never())
	case api.OneOf:
		return simpleList(c, never(), always())
	case api.NotSo:
		return simpleNot(c)
	}
	if !isOp(c.Op) {
		return never()
	}
	x := api.Cond{Op: c.Op}
	if usesText(c.Op) {
		x.Text = c.Text
	}
	if usesNumber(c.Op) {
		x.N = c.N
	}
	return x
}

// simpleList returns the normal form of an AllOf or a OneOf; neutral are the Kids that do not matter, and one that decides decides alone.
func simpleList(c, neutral, decides api.Cond) api.Cond {
	list := []api.Cond{}
	for _, kid := range c.Kids {
		x := Simple(kid)
		if x.Op == c.Op {
			list = append(list, x.Kids...)
		} else {
			list = append(list, x)
		}
	}
	same := func(x api.Cond) func(y api.Cond) bool {
		return func(y api.Cond) bool { return Same(x, y) }
	}
	if slices.ContainsFunc(list, same(decides)) {
		return decides
	}
	left := []api.Cond{}
	for _, x := range list {
		if !Same(x, neutral) && !slices.ContainsFunc(left, same(x)) {
			left = append(left, x)
		}
	}
	switch len(left) {
	case 0:
		return neutral
	case 1:
		return left[0]
	}
	return api.Cond{Op: c.Op, Kids: left}
}

func simpleNot(c api.Cond) api.Cond {
	x := Simple(api.Cond{Op: api.OneOf, Kids: c.Kids})
	if x.Op == api.NotSo {
		return x.Kids[0]
	}
	return api.Cond{Op: api.NotSo, Kids: []api.Cond{x}}
}

// Shadowed returns the names of the rules that never come first, because of an earlier one.
func Shadowed(l []api.PushRule) []string {
	forms := []api.Cond{}
	names := []string{}
	for _, rule := range l {
		form := Simple(rule.When)
		hidden := func(earlier api.Cond) bool { return earlier.Op == api.Always || Same(earlier, form) }
		if slices.ContainsFunc(forms, hidden) {
			names = append(names, rule.Name)
		}
		forms = append(forms, form)
	}
	return names
}
