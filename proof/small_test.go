package proof

import (
	"math/bits"
	"slices"
	"testing"

	"corollary/api"
	"corollary/check"
	"corollary/fact"
)

// base is all that may be so in small programs: a set of it is a number, with a
// bit for each.
var base = list("q(a) q(b) r(a) r(b) s u")

func bit(f api.Fact) int {
	return 1 << slices.IndexFunc(base, func(g api.Fact) bool { return fact.Compare(f, g) == 0 })
}

func bitsOf(s string) int {
	out := 0
	for _, f := range list(s) {
		out |= bit(f)
	}
	return out
}

func factOf(bit int) api.Fact { return base[bits.TrailingZeros(uint(bit))] }

func factsOf(set int) []api.Fact {
	var out []api.Fact
	for i, f := range base {
		if set>>i&1 == 1 {
			out = append(out, f)
		}
	}
	return out
}

// instance is a rule without variables: where all of so is there, and nothing of
// not, head comes.
type instance struct {
	rule, stratum, head, not int
	so                       []int
}

// instances lets X and Y stand for a and b, in all ways: rule by rule, and as lists
// rise.
func instances(p api.Program, strata []int) []instance {
	var out []instance
	for i, r := range p {
		for n := range 4 {
			stands := map[string]string{"X": string(rune('a' + n/2)), "Y": string(rune('a' + n%2))}
			g := instance{rule: i, stratum: strata[i], head: filledBit(r.Head, stands)}
			for _, a := range r.Body {
				if a.Not {
					g.not |= filledBit(a, stands)
				} else {
					g.so = append(g.so, filledBit(a, stands))
				}
			}
			out = append(out, g)
		}
	}
	return out
}

func filledBit(a api.Atom, stands map[string]string) int {
	f := mk(a.Name)
	for _, t := range a.Terms {
		if t.Var {
			t.Name = stands[t.Name]
		}
		f.Args = append(f.Args, t.Name)
	}
	return bit(f)
}

// world is a small program, and all that follows from what was told.
type world struct {
	p         api.Program
	told, all int
	rules     []instance
	old       map[int]int
}

// settle tells how old each fact is, by trying all instances over and over.
func settle(p api.Program, strata []int, told int) world {
	w := world{p: p, told: told, all: told, rules: instances(p, strata), old: map[int]int{}}
	for _, f := range factsOf(told) {
		w.old[bit(f)] = 0
	}
	round := 0
	for n := range len(p) {
		for more := true; more; {
			round++
			made := 0
			for _, g := range w.rules {
				if g.stratum == n && g.not&w.all == 0 && !slices.ContainsFunc(g.so, func(f int) bool { return f&w.all == 0 }) {
					made |= g.head &^ w.all
				}
			}
			for _, f := range factsOf(made) {
				w.old[bit(f)] = round
			}
			w.all |= made
			more = made != 0
		}
	}
	return w
}

// proof is of the first instance of which all is less old.
func (w world) proof(f int) api.Proof {
	if f&w.told != 0 {
		return api.Proof{Fact: factOf(f), Rule: -1}
	}
	i := slices.IndexFunc(w.rules, func(g instance) bool {
		return g.head == f && g.not&w.all == 0 && !slices.ContainsFunc(g.so, func(k int) bool { return k&w.all == 0 || w.old[k] >= w.old[f] })
	})
	out := api.Proof{Fact: factOf(f), Rule: w.rules[i].rule}
	for _, k := range w.rules[i].so {
		out.Kids = append(out.Kids, w.proof(k))
	}
	return out
}

// wrong holds a proof against all instances of its rule, of which fewer and fewer
// are left.
func (w world) wrong(x api.Proof) api.Errno {
	if x.Rule < 0 {
		if x.Rule == -1 && len(x.Kids) == 0 && bit(x.Fact)&w.told != 0 {
			return ok
		}
		return none
	}
	if x.Rule >= len(w.p) {
		return kind
	}
	left := slices.DeleteFunc(slices.Clone(w.rules), func(g instance) bool { return g.rule != x.Rule || g.head != bit(x.Fact) })
	for n := 0; ; n++ {
		if len(left) == 0 {
			return fit
		}
		if n == len(left[0].so) || n == len(x.Kids) {
			break
		}
		left = slices.DeleteFunc(left, func(g instance) bool { return g.so[n] != bit(x.Kids[n].Fact) })
	}
	if len(left[0].so) != len(x.Kids) {
		return many
	}
	if left[0].not&w.all != 0 {
		return loop
	}
	for _, k := range x.Kids {
		if e := w.wrong(k); e != ok {
			return e
		}
	}
	return ok
}

// rules has every rule of a head, and at most n of some atoms, with which nothing
// is wrong.
func rules(heads, some []api.Atom, n int) []api.Rule {
	bodies := [][]api.Atom{nil}
	for from := 0; n > 0; n-- {
		to := len(bodies)
		for _, l := range bodies[from:to] {
			for _, a := range some {
				bodies = append(bodies, slices.Concat(l, []api.Atom{a}))
			}
		}
		from = to
	}
	var out []api.Rule
	for _, h := range heads {
		for _, b := range bodies {
			r := api.Rule{Head: h, Body: b}
			if check.Wrong(api.Program{r}).Err == api.OK {
				out = append(out, r)
			}
		}
	}
	return out
}

var (
	x, y  = variable("X"), variable("Y")
	heads = []api.Atom{atom("s"), atom("q", x), atom("r", x), atom("r", named("b"))}
	some  = []api.Atom{
		atom("s"), not(atom("s")), atom("q", x), not(atom("q", x)), atom("r", x), not(atom("r", x)),
		atom("r", y), not(atom("r", y)), atom("u"),
	}
	sets = []int{0, bitsOf("q(a) u"), bitsOf("q(b) r(a) s"), bitsOf("q(a) q(b) r(b)")}
)

// compareProofs proves all that may be so, from each of some sets.
func compareProofs(t *testing.T, p api.Program) {
	t.Helper()
	strata, f := check.Strata(p)
	for _, set := range sets {
		l := factsOf(set)
		if f.Err != ok {
			wantNoProof(t, p, l, base[0], f.Err)
			wantCheck(t, p, l, api.Proof{}, f.Err)
			continue
		}
		w := settle(p, strata, set)
		for _, g := range base {
			if bit(g)&w.all != 0 {
				wantProof(t, p, l, g, toldProof(w.proof(bit(g))))
			} else {
				wantNoProof(t, p, l, g, none)
			}
		}
	}
}

func TestSmallProgramsOfOneRule(t *testing.T) {
	for _, r := range rules(heads, some, 3) {
		compareProofs(t, api.Program{r})
	}
}

func TestSmallProgramsOfTwoRules(t *testing.T) {
	all := rules(heads, some, 2)
	for i, r := range all {
		for j := i % 5; j < len(all); j += 5 {
			compareProofs(t, api.Program{r, all[j]})
		}
	}
}

func TestSmallProgramsOfThreeRules(t *testing.T) {
	all := parse(t, "s :- u. s :- !u. s :- q(X), r(X). s :- r(Y), q(X). q(a). q(b) :- !u. q(X) :- r(X). q(X) :- r(X), !s."+
		"r(X) :- q(X). r(X) :- q(X), !s. r(b) :- r(a). r(a) :- r(X), q(X). r(X) :- r(Y), q(X), u. u :- s. u :- r(Y), r(X). u :- r(b), !q(b).")
	for _, r := range all {
		for _, s := range all {
			for _, q := range all {
				compareProofs(t, api.Program{r, s, q})
			}
		}
	}
}

// smallProofs has all proofs of base, by any rule, and by such as there are none,
// without Kids; and, by rules, with one or two of some Kids.
func smallProofs(n int) []api.Proof {
	var out, kids []api.Proof
	for _, f := range base {
		for rule := -2; rule <= n; rule++ {
			out = append(out, api.Proof{Fact: f, Rule: rule})
		}
		kids = append(kids, api.Proof{Fact: f, Rule: -1}, api.Proof{Fact: f, Rule: 0})
	}
	for _, f := range base {
		for rule := range n {
			for _, k := range kids {
				out = append(out, api.Proof{Fact: f, Rule: rule, Kids: []api.Proof{k}})
				for _, o := range kids {
					out = append(out, api.Proof{Fact: f, Rule: rule, Kids: []api.Proof{k, o}})
				}
			}
		}
	}
	return out
}

// What is proved is so: whatever Check finds nothing wrong with is all that follows.
func TestSmallChecks(t *testing.T) {
	came := map[api.Errno]int{}
	for _, s := range []string{
		"s. q(X) :- r(X), s.",
		"r(X) :- !s, q(X). s :- u, u.",
		"r(X) :- q(X), q(X). q(b) :- r(Y).",
		"s :- r(X), q(X), !u. u :- r(b), !q(b).",
		"r(b) :- q(X), r(Y), !q(Y). u :- !s.",
		"q(X) :- r(X), r(Y). s :- q(X), !r(X).",
	} {
		p := parse(t, s)
		strata, f := check.Strata(p)
		if f.Err != ok {
			t.Fatal(s, f)
		}
		for _, set := range sets[1:] {
			w, l := settle(p, strata, set), factsOf(set)
			for _, x := range smallProofs(len(p)) {
				err := w.wrong(x)
				came[err]++
				wantCheck(t, p, l, x, err)
				if err == ok && bit(x.Fact)&w.all == 0 {
					t.Errorf("%s: %s is not so", s, toldProof(x))
				}
			}
		}
	}
	for _, e := range []api.Errno{ok, kind, many, none, fit, loop} {
		if came[e] < 20 {
			t.Errorf("%d comes only %d times", e, came[e])
		}
	}
}
