package proof

import (
	"fmt"
	"slices"
	"testing"

	"corollary/api"
)

// roomy has the list, with spare room behind it in which something stands.
func roomy[E any](l []E, behind E) []E {
	out := append(make([]E, 0, len(l)+3), l...)
	spare := out[len(out):cap(out)]
	for i := range spare {
		spare[i] = behind
	}
	return out
}

func spoil[E any](l []E, by E) {
	l = l[:cap(l)]
	for i := range l {
		l[i] = by
	}
}

// handed is all that calls are handed in; behind stands in all spare room.
type handed struct {
	p      api.Program
	facts  []api.Fact
	asked  []api.Fact
	proofs []api.Proof
}

func roomyAtom(a api.Atom, behind string) api.Atom {
	a.Terms = roomy(a.Terms, variable(behind))
	return a
}

func roomyFacts(s, behind string) []api.Fact {
	out := list(s)
	for i, f := range out {
		out[i].Args = roomy(f.Args, behind)
	}
	return roomy(out, mk(behind, behind))
}

func roomyProof(x api.Proof, behind string) api.Proof {
	x.Fact.Args = roomy(x.Fact.Args, behind)
	for i, k := range x.Kids {
		x.Kids[i] = roomyProof(k, behind)
	}
	x.Kids = roomy(x.Kids, api.Proof{Fact: mk(behind), Rule: -1})
	return x
}

// handIn asks for what was told, what follows by each rule, what does not, and what
// is no fact; and looks at proofs that are right, and such as are wrong.
func handIn(t *testing.T, behind string) handed {
	var g handed
	other := roomyAtom(atom(behind, named(behind)), behind)
	for _, r := range parse(t, "t(X,Y) :- e(X,Y). t(X,Z) :- t(X,Y), e(Y,Z). n(X) :- v(X), !t(X,X). k. v(c) :- k, w. m :- !z. o(Y) :- t(Y,Z), t(Z,Y), !n(Z).") {
		r.Head = roomyAtom(r.Head, behind)
		for i, a := range r.Body {
			r.Body[i] = roomyAtom(a, behind)
		}
		r.Body = roomy(r.Body, other)
		g.p = append(g.p, r)
	}
	g.p = roomy(g.p, api.Rule{Head: other})
	g.facts = roomyFacts("e(a,b) e(b,a) e(b,c) v(a) v(d) w", behind)
	g.asked = roomyFacts("e(a,b) w t(a,b) t(a,c) t(a,a) n(d) k v(c) m o(a) n(a) z t(a,X) t(a,b,c,d,e) t(a) T", behind)
	for _, s := range []string{
		"e(a,b)", "t(a,b):0[e(a,b)]", "t(a,c):1[t(a,b):0[e(a,b)] e(b,c)]", "n(d):2[v(d)]", "k:3", "v(c):4[k:3 w]", "m:5", "n(c):2[v(c):4[k:3 w]]",
		"o(a):6[t(a,b):0[e(a,b)] t(b,a):0[e(b,a)]]", "e(a,c)", "e(a,b)[e(a,b)]", "k:7", "k:-2", "k:0", "t(a,b):0", "t(a,b):0[e(a,b) e(a,b)]",
		"t(a,b):0[e(b,c)]", "n(a):2[v(a)]", "m:5[m:5]", "t(a,c):1[t(a,b):0[e(a,b)] e(b,c):7]", "t(a,c):1[t(a,b):0[e(a,b) e(a,b)] e(b,c):7]",
	} {
		g.proofs = append(g.proofs, roomyProof(why(s), behind))
	}
	g.proofs = append(g.proofs, roomyProof(tower("k", api.MaxDeep+1), behind))
	return g
}

// lists has all lists of facts that are handed in.
func (g handed) lists() [][]api.Fact { return [][]api.Fact{g.facts, g.asked} }

func wholeAtom(a api.Atom) string {
	return fmt.Sprintf("%v %q %d %q;", a.Not, a.Name, len(a.Terms), fmt.Sprint(a.Terms[:cap(a.Terms)]))
}

func wholeFact(f api.Fact) string {
	return fmt.Sprintf("%q %d %q;", f.Name, len(f.Args), f.Args[:cap(f.Args)])
}

func wholeProof(x api.Proof) string {
	out := wholeFact(x.Fact) + fmt.Sprint(x.Rule, len(x.Kids), "[")
	for _, k := range x.Kids[:cap(x.Kids)] {
		out += wholeProof(k)
	}
	return out + "]"
}

// whole tells all of it, with its spare room.
func (g handed) whole() string {
	out := fmt.Sprint(len(g.p))
	for _, r := range g.p[:cap(g.p)] {
		out += wholeAtom(r.Head) + fmt.Sprint(len(r.Body))
		for _, a := range r.Body[:cap(r.Body)] {
			out += wholeAtom(a)
		}
	}
	for _, l := range g.lists() {
		out += fmt.Sprint(len(l))
		for _, f := range l[:cap(l)] {
			out += wholeFact(f)
		}
	}
	for _, x := range g.proofs {
		out += wholeProof(x)
	}
	return out
}

func (g handed) spoil() {
	for _, r := range g.p {
		spoil(r.Head.Terms, named("spoilt"))
		for _, a := range r.Body {
			spoil(a.Terms, named("spoilt"))
		}
		spoil(r.Body, atom("spoilt"))
	}
	spoil(g.p, api.Rule{Head: atom("spoilt")})
	for _, l := range g.lists() {
		for _, f := range l {
			spoil(f.Args, "spoilt")
		}
		spoil(l, mk("spoilt"))
	}
}

// answers is what comes of all calls.
type answers struct {
	proofs []api.Proof
	rest   string
}

func (a *answers) add(x api.Proof, e api.Errno) {
	a.proofs = append(a.proofs, x)
	a.rest += fmt.Sprint(e, ";")
}

func ask(g handed) answers {
	var out answers
	for _, p := range []api.Program{g.p, g.p[:0]} {
		for _, l := range [][]api.Fact{g.facts, g.facts[:0], g.asked} {
			for _, f := range g.asked {
				out.add(Prove(p, l, f))
			}
			for _, x := range g.proofs {
				out.rest += fmt.Sprint(Check(p, l, x), ";")
			}
		}
	}
	for _, x := range g.proofs {
		n, d := Size(x)
		out.rest += fmt.Sprint(n, d, ";")
	}
	return out
}

func (a answers) tell() string {
	out := a.rest
	for _, x := range a.proofs {
		out += toldProof(x) + ";"
	}
	return out
}

func TestWhatIsHandedInIsOnlyRead(t *testing.T) {
	g := handIn(t, "zz")
	was := g.whole()
	ask(g)
	if g.whole() != was {
		t.Error("a call changes what it is given")
	}
}

func TestSpareRoomIsNotLookedAt(t *testing.T) {
	wanted := ask(handIn(t, "zz")).tell()
	for _, behind := range []string{"", "a", "X", "e", "t", "z", "NO"} {
		if got := ask(handIn(t, behind)).tell(); got != wanted {
			t.Errorf("with %q behind: %s comes, not %s", behind, got, wanted)
		}
	}
}

func TestAnswersHangOnArgumentsAlone(t *testing.T) {
	g := handIn(t, "zz")
	wanted := ask(g).tell()
	for range 30 {
		if got := ask(g).tell(); got != wanted {
			t.Fatalf("%s comes first, %s then", wanted, got)
		}
	}
}

func TestAnswersAreNewMemory(t *testing.T) {
	g := handIn(t, "zz")
	got := ask(g)
	was := got.tell()
	g.spoil()
	if got.tell() != was {
		t.Error("what came changes with what was given")
	}
}

// Each list that came is written over, with its spare room: nothing else may
// change by it, neither of what was given nor of what came, not even a proof of the
// same fact in another place.
func TestListsOfAnAnswerShareNothing(t *testing.T) {
	g := handIn(t, "zz")
	was, got := g.whole(), ask(g)
	var all []*api.Proof
	for i := range got.proofs {
		all = append(all, parts(&got.proofs[i])...)
	}
	for i, x := range all {
		if slices.Contains(x.Fact.Args, "spoilt") {
			t.Fatalf("fact %d changes with one ahead of it", i)
		}
		spoil(x.Fact.Args, "spoilt")
	}
	var kids [][]api.Proof
	for _, x := range all {
		kids = append(kids, x.Kids)
	}
	for i, l := range kids {
		if slices.ContainsFunc(l, func(x api.Proof) bool { return x.Fact.Name == "spoilt" }) {
			t.Fatalf("list %d changes with one ahead of it", i)
		}
		spoil(l, api.Proof{Fact: mk("spoilt")})
	}
	if g.whole() != was {
		t.Error("what was given changes with what came")
	}
}

// What is answered of a fact that stands in several places is a copy in each.
func TestSameFactsInOneProof(t *testing.T) {
	p, l := parse(t, "b(X) :- a(X), a(X), a(X). c(X) :- b(X), b(X)."), list("a(x)")
	f := mk("c", "x")
	got, e := Prove(p, l, f)
	if e != ok {
		t.Fatal(e)
	}
	for _, x := range parts(&got) {
		if x.Fact.Args[0] != "x" {
			t.Fatalf("%s comes", toldProof(got))
		}
		spoil(x.Fact.Args, "spoilt")
	}
	if f.Args[0] != "x" || l[0].Args[0] != "x" {
		t.Error("what was given changes with what came")
	}
}

func TestNilAndEmptyAreTheSame(t *testing.T) {
	for _, terms := range [][]api.Term{nil, {}, make([]api.Term, 0, 2)} {
		for _, args := range [][]string{nil, {}, make([]string, 0, 2)} {
			for _, body := range [][]api.Atom{nil, {}, make([]api.Atom, 0, 2)} {
				for _, kids := range [][]api.Proof{nil, {}, make([]api.Proof, 0, 2)} {
					for _, l := range [][]api.Fact{nil, {}, make([]api.Fact, 0, 2)} {
						p := api.Program{{Head: api.Atom{Name: "s", Terms: terms}, Body: body}}
						f := api.Fact{Name: "s", Args: args}
						wantProof(t, p, l, f, "s:0")
						wantProof(t, p, []api.Fact{f}, f, "s")
						wantCheck(t, p, l, api.Proof{Fact: f, Kids: kids}, ok)
						wantCheck(t, p, l, api.Proof{Fact: f, Rule: -1, Kids: kids}, none)
						wantCheck(t, p, []api.Fact{f}, api.Proof{Fact: mk("s"), Rule: -1, Kids: kids}, ok)
						wantNoProof(t, api.Program{}, l, f, none)
						wantSize(t, api.Proof{Fact: f, Kids: kids}, 1, 1)
					}
				}
			}
		}
	}
}

// Whatever is handed in, no call panics (Z1), and beside an error nothing comes (Z4).
func TestNoPanic(t *testing.T) {
	atoms := []api.Atom{{}, atom("", variable("")), not(atom("e", named("X"), variable("x"))), atom("e", variable("X")), atom("e", named("a")), atom("e", make([]api.Term, 9)...)}
	facts := []api.Fact{{}, mk("", ""), mk("e", "X", "x"), mk("e", "a"), mk("e", "b"), mk("e", make([]string, 9)...)}
	for _, a := range atoms {
		for _, b := range atoms {
			for _, f := range facts {
				for _, g := range facts {
					p := api.Program{{Head: a, Body: []api.Atom{b}}, {Head: b}}
					for _, l := range [][]api.Fact{nil, {f}, {g, f}} {
						for _, q := range []api.Program{nil, p[1:], p} {
							if x, e := Prove(q, l, g); e != ok && toldProof(x) != toldProof(api.Proof{}) {
								t.Errorf("%d comes beside %s", e, toldProof(x))
							}
							for rule := -2; rule <= 2; rule++ {
								Check(q, l, api.Proof{Fact: f, Rule: rule})
								Check(q, l, api.Proof{Fact: f, Rule: rule, Kids: []api.Proof{{Fact: g, Rule: 1}, {Kids: make([]api.Proof, 3)}}})
							}
						}
					}
				}
			}
		}
	}
}
