package match

import (
	"cmp"
	"slices"

	"corollary/api"
	"corollary/check"
	"corollary/fact"
)

func With(body []api.Atom, facts []api.Fact, at int, other []api.Fact) ([][]api.Bind, api.Errno) {
	if e := wrong(body, facts, other); e != api.OK {
		return nil, e
	}
	from := source(facts, at, other)
	lists, e := met(body, from)
	if e != api.OK {
		return nil, e
	}
	lists = slices.DeleteFunc(lists, func(l []api.Bind) bool { return barred(body, from, l) })
	return risen(lists), api.OK
}

func All(body []api.Atom, facts []api.Fact) ([][]api.Bind, api.Errno) {
	return With(body, facts, -1, nil)
}

// wrong looks at other even where no atom is met by it.
func wrong(body []api.Atom, facts, other []api.Fact) api.Errno {
	if e := check.Body(body); e != api.OK {
		return e
	}
	if f := fact.Set(facts); f.Err != api.OK {
		return f.Err
	}
	return fact.Set(other).Err
}

// source tells of which facts an atom is met, by its number: those that are Not
// count, too, and may themselves be number at.
func source(facts []api.Fact, at int, other []api.Fact) func(n int) []api.Fact {
	return func(n int) []api.Fact {
		if n == at {
			return other
		}
		return facts
	}
}

// met has each list once: a list tells the fact by which it was met (Fill), and
// all lists behind an atom have the same variables, in the same order.
func met(body []api.Atom, from func(n int) []api.Fact) ([][]api.Bind, api.Errno) {
	lists := [][]api.Bind{nil}
	for n, a := range body {
		if a.Not {
			continue
		}
		var e api.Errno
		if lists, e = meetAll(a, from(n), lists); e != api.OK {
			return nil, e
		}
	}
	return lists, api.OK
}

// meetAll stops as soon as there are too many, since there may be MaxFacts times
// as many as MaxBinds in the end.
func meetAll(a api.Atom, facts []api.Fact, lists [][]api.Bind) ([][]api.Bind, api.Errno) {
	var out [][]api.Bind
	for _, l := range lists {
		for _, f := range facts {
			if longer, ok := Meet(a, f, l); ok {
				out = append(out, longer)
			}
		}
		if len(out) > api.MaxBinds {
			return nil, api.ErrMuch
		}
	}
	return out, api.OK
}

// barred tells whether something that must not be so is so with l.
func barred(body []api.Atom, from func(n int) []api.Fact, l []api.Bind) bool {
	for n, a := range body {
		if !a.Not {
			continue
		}
		if f, ok := Fill(a, l); ok && fact.In(from(n), f) {
			return true
		}
	}
	return false
}

// risen sorts lists where they lie: they must be such as nobody else has. Each
// of them must rise ahead of being held against others.
func risen(lists [][]api.Bind) [][]api.Bind {
	for _, l := range lists {
		slices.SortFunc(l, compare)
	}
	slices.SortFunc(lists, func(a, b []api.Bind) int { return slices.CompareFunc(a, b, compare) })
	return lists
}

func compare(a, b api.Bind) int {
	return cmp.Or(cmp.Compare(a.Var, b.Var), cmp.Compare(a.Name, b.Name))
}
