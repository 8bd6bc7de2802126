package proof

import (
	"fmt"
	"slices"
	"testing"

	"corollary/api"
	"corollary/check"
	"corollary/fact"
	"corollary/naive"
)

// wantProofs has for each fact that is proved how; all of them are all that
// follows.
func wantProofs(t *testing.T, text, l string, proofs ...string) {
	t.Helper()
	p := parse(t, text)
	all, e := naive.All(p, list(l))
	if e != ok || len(all) != len(proofs) {
		t.Errorf("%s %d follows from %s, %s", toldFacts(all), e, text, l)
	}
	for _, s := range proofs {
		wantProof(t, p, list(l), why(s).Fact, s)
	}
	wantNoProof(t, p, list(l), mk("none"), none)
	wantNoProof(t, p, list(l), mk("None"), name)
}

// Example 7.
func TestProveByTheFirstRule(t *testing.T) {
	wantProofs(t, "b(X) :- a(X).", "a(q)", "a(q)", "b(q):0[a(q)]")
}

func TestProveWhatWasTold(t *testing.T) {
	wantProofs(t, "", "")
	wantProofs(t, "", "a(x,y) b", "a(x,y)", "b")
	wantProofs(t, "b(X) :- a(X). a(q). b(q).", "a(q) b(q)", "a(q)", "b(q)")
	wantProofs(t, "a :- a. b :- a.", "a b", "a", "b")
}

func TestProveWithoutABody(t *testing.T) {
	wantProofs(t, "a. b(x,y). c :- a, b(X,Y), a.", "", "a:0", "b(x,y):1", "c:2[a:0 b(x,y):1 a:0]")
	wantProofs(t, "a(x). a(y). a(x).", "", "a(x):0", "a(y):1")
}

func TestProveWithNotAtoms(t *testing.T) {
	wantProofs(t, "b :- !c.", "", "b:0")
	wantProofs(t, "b :- !c.", "c", "c")
	wantProofs(t, "b :- !c, a, !d, a.", "a", "a", "b:0[a a]")
	wantProofs(t, "b(X) :- !c(X), a(X). c(X) :- d(X).", "a(x) a(y) d(y)", "a(x)", "a(y)", "b(x):0[a(x)]", "c(y):1[d(y)]", "d(y)")
	wantProofs(t, "b :- !c(x), a(Y). b :- a(Y), !c(Y). c(x) :- !d. c(y) :- c(x).", "a(x) a(z)",
		"a(x)", "a(z)", "b:1[a(z)]", "c(x):2", "c(y):3[c(x):2]")
	wantProofs(t, "b :- a(X), !c(X).", "a(x) a(y) c(x)", "a(x)", "a(y)", "b:0[a(y)]", "c(x)")
	wantProofs(t, "b :- !c. b :- a.", "a c", "a", "b:1[a]", "c")
}

// The first rule is taken of which there are less old facts, whichever of them made
// it, too.
func TestProveTakesTheFirstRule(t *testing.T) {
	wantProofs(t, "b :- a. b :- c. b.", "a c", "a", "b:0[a]", "c")
	wantProofs(t, "b :- d. b :- c. b :- a.", "a c", "a", "b:1[c]", "c")
	wantProofs(t, "d :- a. b :- d. b :- c. b :- a.", "a c", "a", "b:2[c]", "c", "d:0[a]")
	wantProofs(t, "p :- q. q :- p. p :- r.", "r", "p:2[r]", "q:1[p:2[r]]", "r")
	wantProofs(t, "p :- p. p :- r, p. p :- r, r.", "r", "p:2[r r]", "r")
	wantProofs(t, "b(y) :- a(X). b(x) :- a(X). b(X) :- a(X).", "a(x) a(y)", "a(x)", "a(y)", "b(x):1[a(x)]", "b(y):0[a(x)]")
	wantProofs(t, "b(X,X) :- a(X). b(x,X) :- a(X). b(X,Y) :- a(X), a(Y).", "a(x) a(y)",
		"a(x)", "a(y)", "b(x,x):0[a(x)]", "b(x,y):1[a(y)]", "b(y,x):2[a(y) a(x)]", "b(y,y):0[a(y)]")
}

// Lists rise by Var, in whatever order the atoms have them, and the first one is
// taken of which the facts are less old.
func TestProveTakesTheFirstList(t *testing.T) {
	wantProofs(t, "b :- a(X).", "a(x) a(y)", "a(x)", "a(y)", "b:0[a(x)]")
	wantProofs(t, "b :- e(Y,X).", "e(1,2) e(2,1)", "b:0[e(2,1)]", "e(1,2)", "e(2,1)")
	wantProofs(t, "b :- a(Z), e(Z,X).", "a(1) a(2) e(1,4) e(2,3)", "a(1)", "a(2)", "b:0[a(2) e(2,3)]", "e(1,4)", "e(2,3)")
	wantProofs(t, "b(Y) :- e(X,Y), e(Y,Z).", "e(1,2) e(2,1) e(2,2)",
		"b(1):0[e(2,1) e(1,2)]", "b(2):0[e(1,2) e(2,1)]", "e(1,2)", "e(2,1)", "e(2,2)")
	wantProofs(t, "t :- s(X). s(a) :- q.", "q s(b)", "q", "s(a):1[q]", "s(b)", "t:0[s(b)]")
	wantProofs(t, "t :- s(X), s(Y), q. s(a) :- q.", "q s(b) s(c)", "q", "s(a):1[q]", "s(b)", "s(c)", "t:0[s(b) s(b) q]")
	wantProofs(t, "t(X) :- s(X,Y). s(X,a) :- s(X,b).", "s(1,b) s(2,c) s(2,d)",
		"s(1,a):1[s(1,b)]", "s(1,b)", "s(2,c)", "s(2,d)", "t(1):0[s(1,b)]", "t(2):0[s(2,c)]")
}

// Rounds are counted through all strata: what came in one below is less old.
func TestProveThroughStrata(t *testing.T) {
	wantProofs(t, "c :- b2, !d. c :- a, !d. b2 :- b1. b1 :- a. d :- d.", "a",
		"a", "b1:3[a]", "b2:2[b1:3[a]]", "c:0[b2:2[b1:3[a]]]")
	wantProofs(t, "k(X) :- m(X), !l(X). m(X) :- k(X), v(X), !l(X). m(X) :- n(X), !l(X). n(b) :- n(a). n(c) :- n(b). l(a).", "n(a) v(a) v(c)",
		"k(b):0[m(b):2[n(b):3[n(a)]]]", "k(c):0[m(c):2[n(c):4[n(b):3[n(a)]]]]", "l(a):5",
		"m(b):2[n(b):3[n(a)]]", "m(c):2[n(c):4[n(b):3[n(a)]]]", "n(a)", "n(b):3[n(a)]", "n(c):4[n(b):3[n(a)]]", "v(a)", "v(c)")
}

func TestProveWays(t *testing.T) {
	wantProofs(t, "t(X,Y) :- e(X,Y). t(X,Z) :- t(X,Y), t(Y,Z).", "e(a,b) e(b,c) e(c,a)",
		"e(a,b)", "e(b,c)", "e(c,a)", "t(a,b):0[e(a,b)]", "t(b,c):0[e(b,c)]", "t(c,a):0[e(c,a)]",
		"t(a,c):1[t(a,b):0[e(a,b)] t(b,c):0[e(b,c)]]", "t(b,a):1[t(b,c):0[e(b,c)] t(c,a):0[e(c,a)]]", "t(c,b):1[t(c,a):0[e(c,a)] t(a,b):0[e(a,b)]]",
		"t(a,a):1[t(a,b):0[e(a,b)] t(b,a):1[t(b,c):0[e(b,c)] t(c,a):0[e(c,a)]]]",
		"t(b,b):1[t(b,a):1[t(b,c):0[e(b,c)] t(c,a):0[e(c,a)]] t(a,b):0[e(a,b)]]",
		"t(c,c):1[t(c,a):0[e(c,a)] t(a,c):1[t(a,b):0[e(a,b)] t(b,c):0[e(b,c)]]]")
}

// A variable of the head's is what it stands for wherever it is in the body, in Not
// atoms, too; names that are spelt alike are not.
func TestProveHeadVariables(t *testing.T) {
	text := "b(X,x) :- c(x), c(X), d(X,Y,X), !d(Y,X,x)."
	wantProofs(t, text, "c(x) c(y) d(y,x,y) d(y,z,y)",
		"b(y,x):0[c(x) c(y) d(y,x,y)]", "c(x)", "c(y)", "d(y,x,y)", "d(y,z,y)")
	wantProofs(t, text, "c(x) c(y) d(x,y,x) d(y,x,y) d(y,z,y)",
		"b(x,x):0[c(x) c(x) d(x,y,x)]", "b(y,x):0[c(x) c(y) d(y,z,y)]", "c(x)", "c(y)", "d(x,y,x)", "d(y,x,y)", "d(y,z,y)")
	wantProofs(t, text, "c(x) c(y) d(x,y,x) d(y,x,y) d(y,z,y) d(z,y,x)",
		"b(x,x):0[c(x) c(x) d(x,y,x)]", "c(x)", "c(y)", "d(x,y,x)", "d(y,x,y)", "d(y,z,y)", "d(z,y,x)")
}

// All's errors, of a program, and of what was told.
func TestErrorsOfAll(t *testing.T) {
	for _, c := range []struct {
		p, l string
		err  api.Errno
	}{
		{"a :- !a.", "", loop},
		{"a :- !b. b :- a.", "A", loop},
		{"a :- !a. b. b(x).", "b a", fit},
		{"a(X).", "B", free},
		{"a(X) :- !b(X).", "b a", free},
		{"a(x). b :- a.", "a", fit},
		{"a.", "b a", form},
		{"a.", "a a", form},
		{"", "a a", form},
		{"a.", "a(X)", name},
		{"a.", "B", name},
		{"a.", "b(1,2,3,4,5)", many},
		{"a.", "a(x)", fit},
		{"a :- b(X).", "b", fit},
		{"a :- !b(x).", "b(x,y)", fit},
		{"a.", "a(x) B", name},
		{"a.", "a(x) a", form},
	} {
		wantRefused(t, parse(t, c.p), list(c.l), c.err)
	}
	wantRefused(t, make(api.Program, api.MaxRules+1), list("b a"), many)
	wantRefused(t, make(api.Program, 1), list("b a"), name)
	wantRefused(t, api.Program{{Head: not(atom("a"))}}, list("b a"), form)
	wantRefused(t, nil, count("q", api.MaxFacts+1), many)
	wantRefused(t, parse(t, "a."), append(count("q", api.MaxFacts), mk("A")), many)
}

// What is Wrong with the fact is told ahead of there being none such.
func TestProveErrors(t *testing.T) {
	p, l := parse(t, rulesText), list(factsText)
	for _, c := range []struct {
		f   api.Fact
		err api.Errno
	}{
		{mk(""), name},
		{mk("A"), name},
		{mk("_"), name},
		{mk("e", "a", "B"), name},
		{mk("e", "a", ""), name},
		{mk("abcdefghijklm"), name},
		{mk("e", "a", "abcdefghijklm"), name},
		{mk("e", "a", "b", "c", "d", "e"), many},
		{mk("e", "A", "b", "c", "d", "e"), many},
		{mk("E", "a", "b", "c", "d", "e"), name},
		{mk("abcdefghijkl"), none},
		{mk("e"), none},
		{mk("e", "a"), none},
		{mk("e", "a", "c"), none},
		{mk("e", "a", "b", "c"), none},
		{mk("e", "a", "b", "c", "d"), none},
		{mk("t", "a", "d"), none},
		{mk("n", "a"), none},
		{mk("y"), none},
		{mk("q"), none},
	} {
		wantNoProof(t, p, l, c.f, c.err)
	}
}

// olds is how old each fact is, made anew by Once.
func olds(t *testing.T, p api.Program, l []api.Fact) map[string]int {
	t.Helper()
	strata, f := check.Strata(p)
	if f.Err != ok {
		t.Fatal(f)
	}
	out, rounds := map[string]int{}, 0
	for _, f := range l {
		out[toldFact(f)] = 0
	}
	for n := range naive.Count(strata) {
		for more := true; more; {
			all, e := naive.Once(p, strata, n, l)
			if e != ok {
				t.Fatal(e)
			}
			rounds++
			for _, f := range fact.Less(all, l) {
				out[toldFact(f)] = rounds
			}
			more, l = len(all) > len(l), all
		}
	}
	return out
}

// What is so is proved, of Kids that are less old, and what is proved is so.
func TestWhatIsSoIsProved(t *testing.T) {
	l := list("e(a,b) e(b,c) e(c,d) e(d,b) v(a) v(b) v(z)")
	for _, s := range []string{
		"t(X,Y) :- e(X,Y). t(X,Z) :- t(X,Y), e(Y,Z). n(X) :- v(X), !t(a,X). o(X) :- v(X), !n(X).",
		"o(X) :- v(X), !n(X). n(X) :- v(X), !t(a,X). t(X,Z) :- t(X,Y), t(Y,Z). t(X,Y) :- e(X,Y).",
		"p(X,Y) :- e(X,Y), !e(Y,X). p(X,Z) :- p(X,Y), e(Y,Z), v(W). k :- !m. m :- !p(a,a).",
		"t(Y,X) :- t(X,Y). t(X,Y) :- e(X,Y). t(X,Z) :- t(X,Y), t(Y,Z). v(X) :- t(X,Y), v(Y). u(X) :- t(X,X), !v(X).",
	} {
		p := parse(t, s)
		old := olds(t, p, l)
		all, e := naive.All(p, l)
		if e != ok || len(all) != len(old) {
			t.Fatalf("%s %d follows from %s", toldFacts(all), e, s)
		}
		for _, f := range all {
			x, e := Prove(p, l, f)
			if e != ok || fact.Compare(x.Fact, f) != 0 {
				t.Errorf("%s: %s %d comes of %s", s, toldProof(x), e, toldFact(f))
			}
			wantCheck(t, p, l, x, ok)
			for _, y := range parts(&x) {
				wantLessOld(t, old, *y)
			}
		}
	}
}

func wantLessOld(t *testing.T, old map[string]int, x api.Proof) {
	t.Helper()
	mine, is := old[toldFact(x.Fact)]
	if !is || (mine == 0) != (x.Rule == -1) {
		t.Errorf("%s is %d old", toldProof(x), mine)
	}
	for _, k := range x.Kids {
		if theirs, is := old[toldFact(k.Fact)]; !is || theirs >= mine {
			t.Errorf("%s is %d old, and %s %d", toldFact(x.Fact), mine, toldFact(k.Fact), theirs)
		}
	}
}

// A fact's proof is the same wherever it stands.
func TestProofsOfKidsAreTheirOwn(t *testing.T) {
	p, l := parse(t, "t(X,Z) :- t(X,Y), t(Y,Z). t(X,Y) :- e(X,Y). n(X) :- t(X,X), t(X,Y)."), list("e(a,b) e(b,c) e(c,d) e(d,b)")
	for _, f := range list("n(b) n(c) t(a,d) t(b,b)") {
		x, e := Prove(p, l, f)
		if e != ok {
			t.Fatal(toldFact(f), e)
		}
		for _, y := range parts(&x) {
			wantProof(t, p, l, y.Fact, toldProof(*y))
		}
	}
}

// Rules in another order prove the same facts, by other numbers.
func TestOrderOfRules(t *testing.T) {
	l := list("e(a,b) e(b,c) v(a)")
	p := parse(t, "t(X,Z) :- t(X,Y), e(Y,Z). n(X) :- v(X), !t(X,X). t(X,Y) :- e(X,Y). k :- n(X), v(X).")
	wantProof(t, p, l, mk("k"), "k:3[n(a):1[v(a)] v(a)]")
	wantProof(t, p, l, mk("t", "a", "c"), "t(a,c):0[t(a,b):2[e(a,b)] e(b,c)]")
	slices.Reverse(p)
	wantProof(t, p, l, mk("k"), "k:0[n(a):2[v(a)] v(a)]")
	wantProof(t, p, l, mk("t", "a", "c"), "t(a,c):3[t(a,b):1[e(a,b)] e(b,c)]")
}

// count has n facts of a name that rise, of one Arg each.
func count(name string, n int) []api.Fact {
	var out []api.Fact
	for i := range n {
		out = append(out, mk(name, fmt.Sprintf("n%04d", i)))
	}
	return out
}
