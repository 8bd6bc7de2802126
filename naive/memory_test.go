package naive

import (
	"fmt"
	"slices"
	"testing"

	"corollary/api"
)

// roomy has the list, with spare room behind it in which something stands.
func roomy[E any](l []E, behind E) []E {
	out := append(make([]E, 0, len(l)+3), l...)
	spare := out[len(out):cap(out)]
	for i := range spare {
		spare[i] = behind
	}
	return out
}

func spoil[E any](l []E, by E) {
	l = l[:cap(l)]
	for i := range l {
		l[i] = by
	}
}

// given is all that calls are handed in; behind stands in all spare room.
type given struct {
	p      api.Program
	strata []int
	facts  []api.Fact
}

func roomyAtom(a api.Atom, behind string) api.Atom {
	a.Terms = roomy(a.Terms, variable(behind))
	return a
}

func handIn(t *testing.T, behind string, n int) given {
	var g given
	other := roomyAtom(atom(behind, named(behind)), behind)
	for _, r := range parse(t, "t(X,Y) :- e(X,Y). t(X,Z) :- t(X,Y), e(Y,Z). n(X) :- v(X), !t(X,X). k. v(c) :- k, w.") {
		r.Head = roomyAtom(r.Head, behind)
		for i, a := range r.Body {
			r.Body[i] = roomyAtom(a, behind)
		}
		r.Body = roomy(r.Body, other)
		g.p = append(g.p, r)
	}
	g.p = roomy(g.p, api.Rule{Head: other})
	g.strata = roomy([]int{0, 0, 1, 0, 0}, n)
	for _, f := range list("e(a,b) e(b,a) e(b,c) v(a) v(d) w") {
		f.Args = roomy(f.Args, behind)
		g.facts = append(g.facts, f)
	}
	g.facts = roomy(g.facts, mk(behind, behind))
	return g
}

func wholeAtom(a api.Atom) string {
	return fmt.Sprintf("%v %q %d %q;", a.Not, a.Name, len(a.Terms), fmt.Sprint(a.Terms[:cap(a.Terms)]))
}

// whole tells all of it, with its spare room.
func (g given) whole() string {
	out := fmt.Sprint(g.strata[:cap(g.strata)], len(g.strata), len(g.p), len(g.facts))
	for _, r := range g.p[:cap(g.p)] {
		out += wholeAtom(r.Head) + fmt.Sprint(len(r.Body))
		for _, a := range r.Body[:cap(r.Body)] {
			out += wholeAtom(a)
		}
	}
	for _, f := range g.facts[:cap(g.facts)] {
		out += fmt.Sprintf("%q %d %q;", f.Name, len(f.Args), f.Args[:cap(f.Args)])
	}
	return out
}

func (g given) spoil() {
	for _, r := range g.p {
		spoil(r.Head.Terms, named("spoilt"))
		for _, a := range r.Body {
			spoil(a.Terms, named("spoilt"))
		}
		spoil(r.Body, atom("spoilt"))
	}
	for _, f := range g.facts {
		spoil(f.Args, "spoilt")
	}
	spoil(g.p, api.Rule{Head: atom("spoilt")})
	spoil(g.facts, mk("spoilt"))
	spoil(g.strata, 77)
}

// answers is what comes of all calls.
type answers struct {
	lists [][]api.Fact
	rest  string
}

func (a *answers) add(l []api.Fact, e api.Errno) {
	a.lists = append(a.lists, l)
	a.rest += fmt.Sprint(e, ";")
}

func ask(g given) answers {
	var out answers
	for _, r := range g.p {
		out.add(Heads(r, g.facts))
	}
	for n := -1; n <= 3; n++ {
		out.add(Once(g.p, g.strata, n, g.facts))
		out.add(Once(g.p[:0], g.strata, n, g.facts))
		out.add(Once(g.p, g.strata[:1], n, g.facts))
	}
	out.add(All(g.p, g.facts))
	out.add(All(g.p[:0], g.facts))
	out.add(All(g.p, g.facts[:0]))
	out.rest += fmt.Sprint(Facts(g.p, g.facts), Facts(g.p[:0], g.facts), Count(g.strata), Count(g.strata[:0]))
	return out
}

func (a answers) tell() string { return fmt.Sprintf("%q", a.lists) + a.rest }

func TestWhatIsHandedInIsOnlyRead(t *testing.T) {
	g := handIn(t, "zz", 0)
	was := g.whole()
	ask(g)
	if g.whole() != was {
		t.Error("a call changes what it is given")
	}
}

func TestSpareRoomIsNotLookedAt(t *testing.T) {
	wanted := ask(handIn(t, "zz", 0)).tell()
	for n, behind := range []string{"", "a", "X", "e", "t", "NO"} {
		if got := ask(handIn(t, behind, n-1)).tell(); got != wanted {
			t.Errorf("with %q behind: %s comes, not %s", behind, got, wanted)
		}
	}
}

// Asked often, since maps are gone through in another order each time.
func TestAnswersHangOnArgumentsAlone(t *testing.T) {
	g := handIn(t, "zz", 0)
	wanted := ask(g).tell()
	for range 100 {
		if got := ask(g).tell(); got != wanted {
			t.Fatalf("%s comes first, %s then", wanted, got)
		}
	}
}

func TestAnswersAreNewMemory(t *testing.T) {
	g := handIn(t, "zz", 0)
	got := ask(g)
	was := got.tell()
	g.spoil()
	if got.tell() != was {
		t.Error("what came changes with what was given")
	}
}

// Each list that came is written over, with its spare room: nothing else may
// change by it, neither of what was given nor of what came.
func TestListsOfAnAnswerShareNothing(t *testing.T) {
	g := handIn(t, "zz", 0)
	was, got := g.whole(), ask(g)
	var args [][]string
	for _, l := range got.lists {
		for _, f := range l {
			args = append(args, f.Args)
		}
	}
	for i, l := range args {
		spoil(l, "spoilt")
		for j, k := range args[i+1:] {
			if slices.Contains(k, "spoilt") {
				t.Fatalf("list %d changes with list %d", i+1+j, i)
			}
		}
	}
	for i, l := range got.lists {
		spoil(l, mk("spoilt"))
		for j, k := range got.lists[i+1:] {
			if slices.ContainsFunc(k, func(f api.Fact) bool { return f.Name == "spoilt" }) {
				t.Fatalf("answer %d changes with answer %d", i+1+j, i)
			}
		}
	}
	if g.whole() != was {
		t.Error("what was given changes with what came")
	}
}

func TestNilAndEmptyAreTheSame(t *testing.T) {
	for _, terms := range [][]api.Term{nil, {}, make([]api.Term, 0, 2)} {
		for _, args := range [][]string{nil, {}, make([]string, 0, 2)} {
			for _, body := range [][]api.Atom{nil, {}, make([]api.Atom, 0, 2)} {
				l := []api.Fact{{Name: "s", Args: args}}
				p := api.Program{{Head: api.Atom{Name: "s", Terms: terms}, Body: body}}
				wantFacts(t, p, l, api.OK, 0)
				wantHeads(t, p[0], nil, "s")
				wantHeads(t, p[0], []api.Fact{}, "s")
				wantOnce(t, p, []int{0}, 0, l, "s")
				wantAll(t, p, l, "s")
				wantAll(t, append(p, api.Rule{Head: atom("x"), Body: []api.Atom{{Name: "s", Terms: terms, Not: true}}}), l, "s")
			}
		}
	}
	wantAll(t, nil, []api.Fact{}, "")
	wantAll(t, api.Program{}, nil, "")
}

// Whatever is handed in, no call panics (Z1), and beside an error nothing comes (Z4).
func TestNoPanic(t *testing.T) {
	atoms := []api.Atom{{}, atom("", variable("")), not(atom("e", named("X"), variable("x"))), atom("e", variable("X")), atom("e", make([]api.Term, 9)...)}
	facts := []api.Fact{{}, mk("", ""), mk("e", "X", "x"), mk("e", "a"), mk("e", make([]string, 9)...)}
	look := func(l []api.Fact, e api.Errno) {
		if e != api.OK && len(l) != 0 {
			t.Errorf("%d comes beside %q", e, l)
		}
	}
	for _, a := range atoms {
		for _, b := range atoms {
			for _, f := range facts {
				for _, g := range facts {
					r := api.Rule{Head: a, Body: []api.Atom{b}}
					p, l := api.Program{r, {Head: b}, {Body: []api.Atom{a, b}}}, []api.Fact{f, g}
					Facts(p, l)
					look(Heads(r, l))
					look(Heads(api.Rule{Head: a}, l[:1]))
					look(All(p, l))
					for n := -1; n <= 1; n++ {
						look(Once(p, []int{0, n}, n, l))
						look(Once(p, nil, n, l))
					}
				}
			}
		}
	}
}

// What Once tells of facts that are no set, where no rule asks, is a set of them:
// facts that are not the same stay apart, however they are spelt.
func TestOnceOfWhatIsNoSet(t *testing.T) {
	wantOnce(t, nil, nil, 0, list("b a b a(x) a"), "a a(x) b")
	l := []api.Fact{
		{}, mk("", ""), mk("", "", ""), mk("a,b"), mk("a", "b"), mk("a", "", "b"), mk("a", "b", ""), mk("a b"), mk("a(b)"), mk("a", "b,c"), mk("a", "b", "c"),
		mk("1 a"), mk("1", "a"), mk("1 a1 b"), mk("a1 b"), mk("a\x00b"), mk("a", "\x00b"), mk("1 a", "b"), mk("0 "), mk("0"),
		mk("9aaaaaaaaa0"), mk("1", "aaaaaaaaa", ""),
	}
	got, e := Once(nil, nil, 0, append(l, l...))
	if e != api.OK || len(got) != len(l) {
		t.Errorf("%d facts, %d comes, not %d", len(got), e, len(l))
	}
}
