package round

import (
	"slices"
	"testing"

	"corollary/api"
	"corollary/check"
	"corollary/fact"
	"corollary/naive"
)

// base is all that may be so in small programs: a set of it is a number, with a
// bit for each.
var base = list("q(a) q(b) r(a) r(b) s u")

func bit(f api.Fact) int {
	return 1 << slices.IndexFunc(base, func(g api.Fact) bool { return fact.Compare(f, g) == 0 })
}

func bitsOf(s string) int {
	out := 0
	for _, f := range list(s) {
		out |= bit(f)
	}
	return out
}

func factsOf(set int) []api.Fact {
	var out []api.Fact
	for i, f := range base {
		if set>>i&1 == 1 {
			out = append(out, f)
		}
	}
	return out
}

// ground is a rule without variables: where all of so is there, and nothing of
// not, head comes.
type ground struct{ stratum, head, so, not int }

// grounds lets X and Y stand for a and b, in all ways.
func grounds(p api.Program, strata []int) []ground {
	var out []ground
	for i, r := range p {
		for n := range 4 {
			stands := map[string]string{"X": string(rune('a' + n%2)), "Y": string(rune('a' + n/2))}
			g := ground{stratum: strata[i], head: filledBit(r.Head, stands)}
			for _, a := range r.Body {
				if a.Not {
					g.not |= filledBit(a, stands)
				} else {
					g.so |= filledBit(a, stands)
				}
			}
			if !slices.Contains(out, g) {
				out = append(out, g)
			}
		}
	}
	return out
}

func filledBit(a api.Atom, stands map[string]string) int {
	f := mk(a.Name)
	for _, t := range a.Terms {
		if t.Var {
			t.Name = stands[t.Name]
		}
		f.Args = append(f.Args, t.Name)
	}
	return bit(f)
}

// bits is a small run.
type bits struct{ known, fresh, stratum, rounds int }

func (b bits) run(end int) api.Run {
	return api.Run{Known: factsOf(b.known), New: factsOf(b.fresh), Stratum: b.stratum, Rounds: b.rounds, Done: b.stratum == end}
}

// tried makes a round by looking at each rule without variables: something in its
// body must be fresh, if it asks for anything.
func tried(l []ground, b bits) bits {
	made := 0
	for _, g := range l {
		if g.stratum == b.stratum && g.so&^b.known == 0 && g.not&b.known == 0 && (g.so == 0 || g.so&b.fresh != 0) {
			made |= g.head
		}
	}
	made &^= b.known
	if made == 0 {
		return bits{b.known, b.known, b.stratum + 1, b.rounds + 1}
	}
	return bits{b.known | made, made, b.stratum, b.rounds + 1}
}

// rules has every rule of a head, and at most n of some atoms, with which nothing
// is wrong.
func rules(heads, some []api.Atom, n int) []api.Rule {
	bodies := [][]api.Atom{nil}
	for from := 0; n > 0; n-- {
		to := len(bodies)
		for _, l := range bodies[from:to] {
			for _, a := range some {
				bodies = append(bodies, slices.Concat(l, []api.Atom{a}))
			}
		}
		from = to
	}
	var out []api.Rule
	for _, h := range heads {
		for _, b := range bodies {
			r := api.Rule{Head: h, Body: b}
			if check.Wrong(api.Program{r}).Err == api.OK {
				out = append(out, r)
			}
		}
	}
	return out
}

var (
	x, y  = variable("X"), variable("Y")
	heads = []api.Atom{atom("s"), atom("q", x), atom("r", x), atom("r", named("b"))}
	some  = []api.Atom{
		atom("s"), not(atom("s")), atom("q", x), not(atom("q", x)), atom("r", x), not(atom("r", x)),
		atom("r", y), not(atom("r", y)), atom("u"),
	}
	sets = []int{0, bitsOf("q(a) u"), bitsOf("q(b) r(a) s")}
)

// Whatever is known, and whatever of that is new.
func TestSmallRounds(t *testing.T) {
	for _, r := range rules(heads, some, 2) {
		p := api.Program{r}
		strata, f := check.Strata(p)
		if f.Err != ok {
			continue
		}
		g := grounds(p, strata)
		for known := range 1 << len(base) {
			for fresh := known; ; fresh = (fresh - 1) & known {
				compareStep(t, p, g, 1, bits{known, fresh, 0, known})
				if fresh == 0 {
					break
				}
			}
		}
	}
}

func compareStep(t *testing.T, p api.Program, g []ground, end int, b bits) bits {
	t.Helper()
	r, next := b.run(end), tried(g, b)
	got, e := Step(p, r)
	if want := next.run(end); e != ok || toldRun(got) != toldRun(want) {
		t.Fatalf("Step(%v, %s): %s %d comes, not %s", p, toldRun(r), toldRun(got), e, toldRun(want))
	}
	return next
}

func TestSmallProgramsOfOneRule(t *testing.T) {
	for _, r := range rules(heads, some, 3) {
		compareRun(t, api.Program{r})
	}
}

func TestSmallProgramsOfTwoRules(t *testing.T) {
	all := rules(heads, some, 2)
	for _, r := range all {
		for _, s := range all {
			compareRun(t, api.Program{r, s})
		}
	}
}

func TestSmallProgramsOfThreeRules(t *testing.T) {
	all := parse(t, "s :- u. s :- !u. s :- q(X), !r(X). s :- q(a), r(X). q(a). q(b) :- !u. q(X) :- r(X). q(X) :- r(X), !s."+
		"r(X) :- q(X). r(X) :- q(X), !s. r(b) :- !q(a). r(b) :- !s, !q(b). r(X) :- r(Y), q(X), u. u :- s. u :- !s. u :- r(b), !q(b).")
	for _, r := range all {
		for _, s := range all {
			for _, q := range all {
				compareRun(t, api.Program{r, s, q})
			}
		}
	}
}

// compareRun begins with each of some sets, and goes on until it is Done: round by
// round, and in parts; what is Known then is what chapter 5 comes to.
func compareRun(t *testing.T, p api.Program) {
	t.Helper()
	strata, f := check.Strata(p)
	for _, set := range sets {
		if f.Err != ok {
			wantRefused(t, p, factsOf(set), f.Err)
			continue
		}
		l, end := factsOf(set), naive.Count(strata)
		g, b := grounds(p, strata), bits{known: set, fresh: set}
		first := b.run(end)
		wantBegin(t, p, l, first)
		for b.stratum < end {
			b = compareStep(t, p, g, end, b)
		}
		wantSteps(t, p, first, b.rounds, b.run(end))
		half, _ := Steps(p, first, b.rounds/2)
		wantSteps(t, p, half, b.rounds-b.rounds/2, b.run(end))
		same, e := naive.All(p, l)
		if e != ok || told(same) != told(factsOf(b.known)) {
			t.Fatalf("%v, %s: %s %d comes over and over, and %s of what is new", p, told(l), told(same), e, told(factsOf(b.known)))
		}
		wantAll(t, p, l, told(same))
	}
}

// A run that was stopped in any stratum, whatever was known of it by then.
func TestSmallRunsOfSeveralStrata(t *testing.T) {
	for _, s := range []string{
		"s :- q(X), !r(X). r(X) :- q(X), !u. u :- u.",
		"u :- !s, r(X). s :- !r(a), q(b). r(b) :- q(X).",
		"q(X) :- r(X), !u. r(X) :- q(X), !u. u :- !s. s.",
		"r(b). s :- r(X), !q(X). u :- s, r(b). u :- !r(a).",
	} {
		p := parse(t, s)
		strata, f := check.Strata(p)
		if f.Err != ok {
			t.Fatal(s, f)
		}
		g, end := grounds(p, strata), naive.Count(strata)
		for known := range 1 << len(base) {
			for fresh := range 1 << len(base) {
				for stratum := range end {
					b := bits{known, fresh, stratum, fresh}
					if fresh&^known != 0 {
						wantWrong(t, p, b.run(end), fit)
						continue
					}
					compareStep(t, p, g, end, b)
				}
			}
		}
	}
}
