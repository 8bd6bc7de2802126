package match

import (
	"slices"
	"testing"

	"corollary/api"
	"corollary/fact"
)

// bodies has every body of at most n of some atoms.
func bodies(some []api.Atom, n int) [][]api.Atom {
	out := [][]api.Atom{nil}
	for from := 0; n > 0; n-- {
		to := len(out)
		for _, l := range out[from:to] {
			for _, a := range some {
				out = append(out, slices.Concat(l, []api.Atom{a}))
			}
		}
		from = to
	}
	return out
}

// What is told is so, and all of it: held against trying all that variables may
// stand for.
func TestWithOfAllSmallBodies(t *testing.T) {
	x, y, z, a := variable("X"), variable("Y"), variable("Z"), named("a")
	some := []api.Atom{
		atom("s"), not(atom("s")), atom("q", x), atom("q", y), not(atom("q", x)), not(atom("q", a)),
		atom("e", y, x), atom("e", x, x), atom("e", a, z), atom("e", z, y), not(atom("e", x, y)), not(atom("e", z, a)),
	}
	sets := [][]api.Fact{
		nil,
		{mk("q", "a"), mk("q", "c"), mk("s")},
		{mk("e", "a", "a"), mk("e", "a", "b"), mk("e", "b", "a"), mk("q", "a"), mk("q", "b")},
		{mk("e", "a"), mk("e", "a", "b"), mk("e", "b", "c"), mk("e", "c", "b"), mk("q", "b"), mk("q", "a", "b"), mk("s")},
	}
	for _, body := range bodies(some, 3) {
		for _, facts := range sets {
			for _, other := range sets {
				for at := -1; at <= len(body); at++ {
					compareWith(t, body, facts, at, other)
				}
			}
		}
	}
}

func compareWith(t *testing.T, body []api.Atom, facts []api.Fact, at int, other []api.Fact) {
	t.Helper()
	want, err := triedWith(body, facts, at, other)
	got, e := With(body, facts, at, other)
	if told(got) != told(want) || e != err {
		t.Fatalf("With(%v, %q, %d, %q): %s %d comes, not %s %d", body, facts, at, other, told(got), e, told(want), err)
	}
	if at < 0 {
		if again, e := All(body, facts); told(again) != told(want) || e != err {
			t.Fatalf("All(%v, %q): %s %d comes, not %s %d", body, facts, told(again), e, told(want), err)
		}
	}
}

// triedWith lets variables, from the least on, stand for a, b and c, from a on:
// so its lists rise of themselves.
func triedWith(body []api.Atom, facts []api.Fact, at int, other []api.Fact) ([][]api.Bind, api.Errno) {
	vars := variablesOf(body, func(api.Atom) bool { return true })
	if len(variablesOf(body, func(a api.Atom) bool { return !a.Not })) < len(vars) {
		return nil, api.ErrFree
	}
	var out [][]api.Bind
	for n := range power(3, len(vars)) {
		var l []api.Bind
		stands := map[string]string{}
		for i, v := range vars {
			stands[v] = string(rune('a' + n/power(3, len(vars)-1-i)%3))
			l = append(l, api.Bind{Var: v, Name: stands[v]})
		}
		if allHold(body, facts, at, other, stands) {
			out = append(out, l)
		}
	}
	return out, api.OK
}

func variablesOf(body []api.Atom, wanted func(api.Atom) bool) []string {
	var out []string
	for _, a := range body {
		for _, t := range a.Terms {
			if t.Var && wanted(a) {
				out = append(out, t.Name)
			}
		}
	}
	slices.Sort(out)
	return slices.Compact(out)
}

func power(n, times int) int {
	out := 1
	for range times {
		out *= n
	}
	return out
}

func allHold(body []api.Atom, facts []api.Fact, at int, other []api.Fact, stands map[string]string) bool {
	for i, a := range body {
		f := api.Fact{Name: a.Name}
		for _, t := range a.Terms {
			if t.Var {
				f.Args = append(f.Args, stands[t.Name])
			} else {
				f.Args = append(f.Args, t.Name)
			}
		}
		of := facts
		if i == at {
			of = other
		}
		if a.Not == slices.ContainsFunc(of, func(g api.Fact) bool { return fact.Compare(f, g) == 0 }) {
			return false
		}
	}
	return true
}
