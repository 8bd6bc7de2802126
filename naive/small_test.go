package naive

import (
	"slices"
	"testing"

	"corollary/api"
	"corollary/check"
	"corollary/fact"
)

// base is all that may be so in small programs: a set of it is a number, with a
// bit for each.
var base = list("q(a) q(b) r(a) r(b) s u")

func bit(f api.Fact) int {
	return 1 << slices.IndexFunc(base, func(g api.Fact) bool { return fact.Compare(f, g) == 0 })
}

func bitsOf(s string) int {
	out := 0
	for _, f := range list(s) {
		out |= bit(f)
	}
	return out
}

func factsOf(set int) []api.Fact {
	var out []api.Fact
	for i, f := range base {
		if set>>i&1 == 1 {
			out = append(out, f)
		}
	}
	return out
}

// ground is a rule without variables: where all of so is there, and nothing of
// not, head must be.
type ground struct{ rule, head, so, not int }

// grounds lets X and Y stand for a and b, in all ways.
func grounds(p api.Program) []ground {
	var out []ground
	for i, r := range p {
		for n := range 4 {
			stands := map[string]string{"X": string(rune('a' + n%2)), "Y": string(rune('a' + n/2))}
			g := ground{rule: i, head: filled(r.Head, stands)}
			for _, a := range r.Body {
				if a.Not {
					g.not |= filled(a, stands)
				} else {
					g.so |= filled(a, stands)
				}
			}
			if !slices.Contains(out, g) {
				out = append(out, g)
			}
		}
	}
	return out
}

func filled(a api.Atom, stands map[string]string) int {
	f := mk(a.Name)
	for _, t := range a.Terms {
		if t.Var {
			t.Name = stands[t.Name]
		}
		f.Args = append(f.Args, t.Name)
	}
	return bit(f)
}

// asked is what must be there where set is, and of what must not be so, other.
func asked(l []ground, set, other int) int {
	out := 0
	for _, g := range l {
		if g.so&^set == 0 && g.not&other == 0 {
			out |= g.head
		}
	}
	return out
}

// tried has the sets with all that was told, and all that they ask for, of which
// nothing could be left out while what is not so stays as it is: one, where there
// are strata.
func tried(l []ground, told int) []int {
	var out []int
	for set := range 1 << len(base) {
		if told&^set == 0 && asked(l, set, set)&^set == 0 && least(l, set, told) {
			out = append(out, set)
		}
	}
	return out
}

func least(l []ground, set, told int) bool {
	for less := range set {
		if less&^set == 0 && told&^less == 0 && asked(l, less, set)&^less == 0 {
			return false
		}
	}
	return true
}

// rules has every rule of a head, and at most n of some atoms.
func rules(heads, some []api.Atom, n int) []api.Rule {
	bodies := [][]api.Atom{nil}
	for from := 0; n > 0; n-- {
		to := len(bodies)
		for _, l := range bodies[from:to] {
			for _, a := range some {
				bodies = append(bodies, slices.Concat(l, []api.Atom{a}))
			}
		}
		from = to
	}
	var out []api.Rule
	for _, h := range heads {
		for _, b := range bodies {
			out = append(out, api.Rule{Head: h, Body: b})
		}
	}
	return out
}

var (
	x, y  = variable("X"), variable("Y")
	heads = []api.Atom{atom("s"), atom("q", x), atom("r", x), atom("r", named("b"))}
	some  = []api.Atom{
		atom("s"), not(atom("s")), atom("q", x), not(atom("q", x)), atom("r", x), not(atom("r", x)),
		atom("r", y), not(atom("r", y)), atom("u"),
	}
	sets = []int{0, bitsOf("q(a) u"), bitsOf("q(b) r(a) s")}
)

func TestSmallRules(t *testing.T) {
	for _, r := range rules(heads, some, 2) {
		for set := range 1 << len(base) {
			compareHeads(t, r, set)
		}
	}
}

func TestSmallProgramsOfOneRule(t *testing.T) {
	for _, r := range rules(heads, some, 3) {
		for _, set := range sets {
			compareAll(t, api.Program{r}, set)
		}
	}
}

// Rules that are wrong by themselves are left out here.
func TestSmallProgramsOfTwoRules(t *testing.T) {
	right := slices.DeleteFunc(rules(heads, some, 2), func(r api.Rule) bool { return check.Wrong(api.Program{r}).Err != api.OK })
	for _, r := range right {
		for _, s := range right {
			for _, set := range sets {
				compareAll(t, api.Program{r, s}, set)
			}
		}
	}
}

func TestSmallProgramsOfThreeRules(t *testing.T) {
	all := parse(t, "s :- u. s :- !u. s :- q(X), !r(X). s :- q(a), r(X). q(a). q(b) :- !u. q(X) :- r(X). q(X) :- r(X), !s."+
		"r(X) :- q(X). r(X) :- q(X), !s. r(b) :- !q(a). r(b) :- !s, !q(b). r(X) :- r(Y), q(X), u. u :- s. u :- !s. u :- r(b), !q(b).")
	for _, r := range all {
		for _, s := range all {
			for _, q := range all {
				for _, set := range sets {
					compareAll(t, api.Program{r, s, q}, set)
				}
			}
		}
	}
}

// A head that is told nothing brings nothing.
func compareHeads(t *testing.T, r api.Rule, set int) {
	t.Helper()
	got, e := Heads(r, factsOf(set))
	wanted, err := 0, check.Body(r.Body)
	if check.Wrong(api.Program{r}).Err == api.OK {
		wanted = asked(grounds(api.Program{r}), set, set)
	}
	if told(got) != told(factsOf(wanted)) || e != err {
		t.Fatalf("Heads(%v, %q): %s %d comes, not %s %d", r, factsOf(set), told(got), e, told(factsOf(wanted)), err)
	}
}

func compareAll(t *testing.T, p api.Program, set int) {
	t.Helper()
	l := factsOf(set)
	got, e := All(p, l)
	strata, f := check.Strata(p)
	if f.Err != api.OK {
		want(t, "All", got, e, "", f.Err)
		return
	}
	g := grounds(p)
	wanted := tried(g, set)
	if len(wanted) != 1 || e != api.OK || told(got) != told(factsOf(wanted[0])) {
		t.Fatalf("All(%v, %q): %s %d comes, not one of %b", p, l, told(got), e, wanted)
	}
	if again, e := All(p, got); e != api.OK || told(again) != told(got) {
		t.Fatalf("All(%v, %q), again: %s %d comes, not %s", p, got, told(again), e, told(got))
	}
	compareOnce(t, p, g, strata, set)
	compareOnce(t, p, g, make([]int, len(p)), set)
}

func compareOnce(t *testing.T, p api.Program, g []ground, strata []int, set int) {
	t.Helper()
	for n := range Count(strata) {
		other := func(x ground) bool { return strata[x.rule] != n }
		wanted := set | asked(slices.DeleteFunc(slices.Clone(g), other), set, set)
		got, e := Once(p, strata, n, factsOf(set))
		if e != api.OK || told(got) != told(factsOf(wanted)) {
			t.Fatalf("Once(%v, %d, %d, %q): %s %d comes, not %s", p, strata, n, factsOf(set), told(got), e, told(factsOf(wanted)))
		}
	}
}
