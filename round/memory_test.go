package round

import (
	"fmt"
	"slices"
	"testing"

	"corollary/api"
)

// roomy has the list, with spare room behind it in which something stands.
func roomy[E any](l []E, behind E) []E {
	out := append(make([]E, 0, len(l)+3), l...)
	spare := out[len(out):cap(out)]
	for i := range spare {
		spare[i] = behind
	}
	return out
}

func spoil[E any](l []E, by E) {
	l = l[:cap(l)]
	for i := range l {
		l[i] = by
	}
}

// given is all that calls are handed in; behind stands in all spare room.
type given struct {
	p     api.Program
	facts []api.Fact
	runs  []api.Run
}

func roomyAtom(a api.Atom, behind string) api.Atom {
	a.Terms = roomy(a.Terms, variable(behind))
	return a
}

func roomyFacts(s, behind string) []api.Fact {
	out := list(s)
	for i, f := range out {
		out[i].Args = roomy(f.Args, behind)
	}
	return roomy(out, mk(behind, behind))
}

// handIn has runs in which something comes, in which nothing does, which are Done,
// and which are wrong.
func handIn(t *testing.T, behind string) given {
	var g given
	other := roomyAtom(atom(behind, named(behind)), behind)
	for _, r := range parse(t, "t(X,Y) :- e(X,Y). t(X,Z) :- t(X,Y), e(Y,Z). n(X) :- v(X), !t(X,X). k. v(c) :- k, w. m :- !z.") {
		r.Head = roomyAtom(r.Head, behind)
		for i, a := range r.Body {
			r.Body[i] = roomyAtom(a, behind)
		}
		r.Body = roomy(r.Body, other)
		g.p = append(g.p, r)
	}
	g.p = roomy(g.p, api.Rule{Head: other})
	known := "e(a,b) e(b,a) e(b,c) v(a) v(d) w"
	g.facts = roomyFacts(known, behind)
	for _, r := range []struct {
		known, fresh    string
		stratum, rounds int
	}{
		{known, known, 0, 0}, {known, "e(b,a)", 0, 5}, {known, "v(a) v(d)", 1, 5}, {known, "", 1, 5}, {"k m", "", 0, 5},
		{known, known, 2, 7}, {known, "v(a)", 2, 7}, {"", "", 0, 0}, {"", "", 2, 0},
		{known, "v(b)", 0, 0}, {known, known, 0, -1}, {"w v(a)", "", 0, 0}, {"t", "", 0, 0}, {known, "w v(a)", 0, 0}, {known, "", 0, api.MaxSteps},
	} {
		g.runs = append(g.runs, api.Run{Known: roomyFacts(r.known, behind), New: roomyFacts(r.fresh, behind), Stratum: r.stratum, Rounds: r.rounds, Done: r.stratum == 2})
	}
	return g
}

// lists has all lists of facts that are handed in.
func (g given) lists() [][]api.Fact {
	out := [][]api.Fact{g.facts}
	for _, r := range g.runs {
		out = append(out, r.Known, r.New)
	}
	return out
}

func wholeAtom(a api.Atom) string {
	return fmt.Sprintf("%v %q %d %q;", a.Not, a.Name, len(a.Terms), fmt.Sprint(a.Terms[:cap(a.Terms)]))
}

// whole tells all of it, with its spare room.
func (g given) whole() string {
	out := fmt.Sprint(len(g.p))
	for _, r := range g.p[:cap(g.p)] {
		out += wholeAtom(r.Head) + fmt.Sprint(len(r.Body))
		for _, a := range r.Body[:cap(r.Body)] {
			out += wholeAtom(a)
		}
	}
	for _, l := range g.lists() {
		out += fmt.Sprint(len(l))
		for _, f := range l[:cap(l)] {
			out += fmt.Sprintf("%q %d %q;", f.Name, len(f.Args), f.Args[:cap(f.Args)])
		}
	}
	return out
}

func (g given) spoil() {
	for _, r := range g.p {
		spoil(r.Head.Terms, named("spoilt"))
		for _, a := range r.Body {
			spoil(a.Terms, named("spoilt"))
		}
		spoil(r.Body, atom("spoilt"))
	}
	spoil(g.p, api.Rule{Head: atom("spoilt")})
	for _, l := range g.lists() {
		for _, f := range l {
			spoil(f.Args, "spoilt")
		}
		spoil(l, mk("spoilt"))
	}
}

// answers is what comes of all calls.
type answers struct {
	lists [][]api.Fact
	rest  string
}

func (a *answers) add(l []api.Fact, e api.Errno) {
	a.lists = append(a.lists, l)
	a.rest += fmt.Sprint(e, ";")
}

func (a *answers) addRun(r api.Run, e api.Errno) {
	a.lists = append(a.lists, r.Known, r.New)
	a.rest += fmt.Sprint(r.Stratum, r.Rounds, r.Done, e, ";")
}

func ask(g given) answers {
	var out answers
	for _, p := range []api.Program{g.p, g.p[:0]} {
		out.addRun(Begin(p, g.facts))
		out.addRun(Begin(p, g.facts[:0]))
		out.add(All(p, g.facts))
		out.add(All(p, g.facts[:0]))
		for _, r := range g.runs {
			out.rest += fmt.Sprint(Wrong(p, r), ";")
			out.addRun(Step(p, r))
			for _, n := range []int{-1, 0, 1, 2, 3, api.MaxSteps, api.MaxSteps + 1} {
				out.addRun(Steps(p, r, n))
			}
		}
	}
	return out
}

func (a answers) tell() string { return fmt.Sprintf("%q", a.lists) + a.rest }

func TestWhatIsHandedInIsOnlyRead(t *testing.T) {
	g := handIn(t, "zz")
	was := g.whole()
	ask(g)
	if g.whole() != was {
		t.Error("a call changes what it is given")
	}
}

func TestSpareRoomIsNotLookedAt(t *testing.T) {
	wanted := ask(handIn(t, "zz")).tell()
	for _, behind := range []string{"", "a", "X", "e", "t", "z", "NO"} {
		if got := ask(handIn(t, behind)).tell(); got != wanted {
			t.Errorf("with %q behind: %s comes, not %s", behind, got, wanted)
		}
	}
}

func TestAnswersHangOnArgumentsAlone(t *testing.T) {
	g := handIn(t, "zz")
	wanted := ask(g).tell()
	for range 30 {
		if got := ask(g).tell(); got != wanted {
			t.Fatalf("%s comes first, %s then", wanted, got)
		}
	}
}

func TestAnswersAreNewMemory(t *testing.T) {
	g := handIn(t, "zz")
	got := ask(g)
	was := got.tell()
	g.spoil()
	if got.tell() != was {
		t.Error("what came changes with what was given")
	}
}

// Each list that came is written over, with its spare room: nothing else may
// change by it, neither of what was given nor of what came, not even what is New
// with what is Known.
func TestListsOfAnAnswerShareNothing(t *testing.T) {
	g := handIn(t, "zz")
	was, got := g.whole(), ask(g)
	var args [][]string
	for _, l := range got.lists {
		for _, f := range l {
			args = append(args, f.Args)
		}
	}
	for i, l := range args {
		if slices.Contains(l, "spoilt") {
			t.Fatalf("list %d changes with one ahead of it", i)
		}
		spoil(l, "spoilt")
	}
	for i, l := range got.lists {
		if slices.ContainsFunc(l, func(f api.Fact) bool { return f.Name == "spoilt" }) {
			t.Fatalf("answer %d changes with one ahead of it", i)
		}
		spoil(l, mk("spoilt"))
	}
	if g.whole() != was {
		t.Error("what was given changes with what came")
	}
}

func TestNilAndEmptyAreTheSame(t *testing.T) {
	none := [][]api.Fact{nil, {}, make([]api.Fact, 0, 2)}
	for _, terms := range [][]api.Term{nil, {}, make([]api.Term, 0, 2)} {
		for _, args := range [][]string{nil, {}, make([]string, 0, 2)} {
			for _, body := range [][]api.Atom{nil, {}, make([]api.Atom, 0, 2)} {
				for _, l := range none {
					p := api.Program{{Head: api.Atom{Name: "s", Terms: terms}, Body: body}}
					known := []api.Fact{{Name: "s", Args: args}}
					wantBegin(t, p, known, all("s", 0, 0))
					wantStep(t, p, api.Run{Known: known, New: l}, done(all("s", 1, 1)))
					wantStep(t, p, api.Run{Known: l, New: l}, all("s", 0, 1))
					wantStep(t, p, api.Run{Known: known, New: list("s")}, done(all("s", 1, 1)))
					wantWrong(t, p, api.Run{Known: l, New: known}, fit)
					wantAll(t, p, l, "s")
				}
			}
		}
	}
	for _, l := range none {
		wantBegin(t, nil, l, done(api.Run{}))
		wantStep(t, api.Program{}, done(api.Run{Known: l}), done(api.Run{New: l}))
		wantAll(t, api.Program{}, l, "")
	}
}

// Whatever is handed in, no call panics (Z1), and beside an error nothing comes (Z4).
func TestNoPanic(t *testing.T) {
	atoms := []api.Atom{{}, atom("", variable("")), not(atom("e", named("X"), variable("x"))), atom("e", variable("X")), atom("e", named("a")), atom("e", make([]api.Term, 9)...)}
	facts := []api.Fact{{}, mk("", ""), mk("e", "X", "x"), mk("e", "a"), mk("e", "b"), mk("e", make([]string, 9)...)}
	look := func(r api.Run, e api.Errno) {
		if e != ok && toldRun(r) != toldRun(api.Run{}) {
			t.Errorf("%d comes beside %s", e, toldRun(r))
		}
	}
	for _, a := range atoms {
		for _, b := range atoms {
			for _, f := range facts {
				for _, g := range facts {
					p, l := api.Program{{Head: a, Body: []api.Atom{b}}, {Head: b}}, []api.Fact{f, g}
					look(Begin(p, l))
					for n := -1; n <= 2; n++ {
						for _, r := range []api.Run{{Known: l, New: l, Stratum: n}, {Known: l, New: l[1:], Stratum: n, Done: true}, {Known: l[:1], New: l[1:], Rounds: n}, {New: l}} {
							Wrong(p, r)
							look(Step(p, r))
							look(Steps(p, r, n))
							look(Step(p[1:], r))
						}
					}
					if got, e := All(p, l); e != ok && len(got) != 0 {
						t.Errorf("%d comes beside %s", e, told(got))
					}
				}
			}
		}
	}
}
