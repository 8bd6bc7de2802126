package match

import (
	"fmt"
	"slices"
	"testing"

	"corollary/api"
)

// roomy has the list, with spare room behind it in which something stands.
func roomy[E any](l []E, behind E) []E {
	out := append(make([]E, 0, len(l)+3), l...)
	spare := out[len(out):cap(out)]
	for i := range spare {
		spare[i] = behind
	}
	return out
}

// given is all that calls are handed in; behind stands in all spare room.
type given struct {
	body         []api.Atom
	facts, other []api.Fact
	list         []api.Bind
}

func handIn(t *testing.T, behind string) given {
	var g given
	for _, a := range parse(t, "e(Y,X), !q(X), e(X,Z), s") {
		a.Terms = roomy(a.Terms, variable(behind))
		g.body = append(g.body, a)
	}
	roomyArgs := func(l []api.Fact) []api.Fact {
		var out []api.Fact
		for _, f := range l {
			f.Args = roomy(f.Args, behind)
			out = append(out, f)
		}
		return roomy(out, mk(behind, behind))
	}
	g.body = roomy(g.body, not(atom(behind, variable(behind))))
	g.facts = roomyArgs(edges)
	g.other = roomyArgs([]api.Fact{mk("e", "a", "b"), mk("e", "a", "c"), mk("e", "b", "a"), mk("e", "c", "d"), mk("q", "b"), mk("s")})
	g.list = roomy(binds("Y", "a", "Z", "b", "Y", "c"), api.Bind{Var: behind, Name: behind})
	return g
}

// whole tells all of it, with its spare room.
func (g given) whole() string {
	out := tell(g.list[:cap(g.list)], len(g.list), len(g.body), len(g.facts), len(g.other))
	for _, a := range g.body[:cap(g.body)] {
		out += tell(a.Name, a.Not, len(a.Terms), a.Terms[:cap(a.Terms)])
	}
	for _, l := range [][]api.Fact{g.facts[:cap(g.facts)], g.other[:cap(g.other)]} {
		for _, f := range l {
			out += tell(f.Name, len(f.Args), f.Args[:cap(f.Args)])
		}
	}
	return out
}

func spoil[E any](l []E, by E) {
	l = l[:cap(l)]
	for i := range l {
		l[i] = by
	}
}

func (g given) spoil() {
	for _, a := range g.body {
		spoil(a.Terms, named("spoilt"))
	}
	for _, l := range [][]api.Fact{g.facts, g.other} {
		for _, f := range l {
			spoil(f.Args, "spoilt")
		}
		spoil(l, mk("spoilt"))
	}
	spoil(g.body, atom("spoilt"))
	spoil(g.list, api.Bind{Var: "spoilt", Name: "spoilt"})
}

// answers is what comes of all calls.
type answers struct {
	with  [][][]api.Bind
	meets [][]api.Bind
	fills []api.Fact
	text  string
}

func ask(g given) answers {
	var out answers
	for at := -1; at <= len(g.body); at++ {
		l, e := With(g.body, g.facts, at, g.other)
		out.with = append(out.with, l)
		out.text += tell(int(e))
	}
	l, e := All(g.body, g.facts)
	out.with = append(out.with, l)
	out.text += tell(int(e))
	for _, a := range g.body {
		for _, f := range g.facts {
			m, met := Meet(a, f, g.list)
			out.meets = append(out.meets, m)
			x, filled := Fill(a, m)
			out.fills = append(out.fills, x)
			out.text += fmt.Sprint(met, filled)
		}
		for _, v := range a.Terms {
			s, ok := Get(g.list, v.Name)
			out.text += fmt.Sprint(s, ok)
		}
	}
	return out
}

func (a answers) tell() string { return tell(a.with, a.meets, a.fills) + a.text }

func TestWhatIsHandedInIsOnlyRead(t *testing.T) {
	g := handIn(t, "zz")
	was := g.whole()
	ask(g)
	if g.whole() != was {
		t.Error("a call changes what it is given")
	}
}

func TestSpareRoomIsNotLookedAt(t *testing.T) {
	want := ask(handIn(t, "zz")).tell()
	for _, behind := range []string{"", "a", "X", "Y", "e", "NO"} {
		if got := ask(handIn(t, behind)).tell(); got != want {
			t.Errorf("with %q behind: %s comes, not %s", behind, got, want)
		}
	}
}

func TestAnswersHangOnArgumentsAlone(t *testing.T) {
	g := handIn(t, "zz")
	if a, b := ask(g).tell(), ask(g).tell(); a != b {
		t.Errorf("%s comes first, %s then", a, b)
	}
}

func TestAnswersAreNewMemory(t *testing.T) {
	g := handIn(t, "zz")
	got := ask(g)
	for i, l := range got.with {
		if len(l) == 0 {
			t.Fatalf("nothing comes of With number %d", i)
		}
	}
	was := got.tell()
	g.spoil()
	if got.tell() != was {
		t.Error("what came changes with what was given")
	}
}

// Each list that came is written over, with its spare room: nothing else may
// change by it, neither of what was given nor of what came.
func TestListsOfAnAnswerShareNothing(t *testing.T) {
	g := handIn(t, "zz")
	was, got := g.whole(), ask(g)
	bad := api.Bind{Var: "spoilt", Name: "spoilt"}
	lists := got.meets
	for _, l := range got.with {
		lists = append(lists, l...)
	}
	for i, l := range lists {
		spoil(l, bad)
		for j, k := range lists[i+1:] {
			if slices.Contains(k, bad) {
				t.Fatalf("list %d changes with list %d", i+1+j, i)
			}
		}
	}
	for i, f := range got.fills {
		spoil(f.Args, "spoilt")
		for _, k := range got.fills[i+1:] {
			if slices.Contains(k.Args, "spoilt") {
				t.Fatalf("%q changes with fact %d", k, i)
			}
		}
	}
	for _, l := range got.with {
		spoil(l, []api.Bind{bad})
	}
	if g.whole() != was {
		t.Error("what was given changes with what came")
	}
}

func TestNilAndEmptyAreTheSame(t *testing.T) {
	bare, empty := atom("s"), api.Atom{Name: "s", Terms: make([]api.Term, 0, 2)}
	bareFact, emptyFact := mk("s"), api.Fact{Name: "s", Args: make([]string, 0, 2)}
	for _, a := range []api.Atom{bare, empty} {
		for _, f := range []api.Fact{bareFact, emptyFact} {
			wantMeet(t, a, f, nil)
			wantMeet(t, a, f, make([]api.Bind, 0, 2))
			wantAll(t, []api.Atom{a}, []api.Fact{f}, "-")
			wantAll(t, []api.Atom{not(a)}, []api.Fact{f}, "")
		}
		wantFill(t, a, nil, mk("s"))
		wantFill(t, a, make([]api.Bind, 0, 2), mk("s"))
	}
}

// Whatever is handed in, no call panics (Z1), and beside an error nothing comes (Z4).
func TestNoPanic(t *testing.T) {
	atoms := []api.Atom{{}, atom("", variable("")), not(atom("e", named("X"), variable("x"))), atom("e", variable("X")), atom("e", make([]api.Term, 9)...)}
	facts := []api.Fact{{}, mk("", ""), mk("e", "X", "x"), mk("e", "a"), mk("e", make([]string, 9)...)}
	for _, a := range atoms {
		for _, b := range atoms {
			for _, f := range facts {
				for _, g := range facts {
					for at := -1; at <= 2; at++ {
						if l, e := With([]api.Atom{a, b}, []api.Fact{f, g}, at, []api.Fact{g, f}); e != api.OK && len(l) != 0 {
							t.Errorf("%d comes beside %q", e, l)
						}
					}
					Meet(a, f, binds(g.Name, f.Name))
					Fill(b, binds(g.Name, f.Name))
				}
			}
		}
	}
}
