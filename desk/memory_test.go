package desk

import (
	"bytes"
	"fmt"
	"slices"
	"strings"
	"testing"

	"corollary/api"
)

// roomy has the list, with spare room behind it in which something stands.
func roomy[E any](l []E, behind E) []E {
	out := append(make([]E, 0, len(l)+3), l...)
	spare := out[len(out):cap(out)]
	for i := range spare {
		spare[i] = behind
	}
	return out
}

func spoil[E any](l []E, by E) {
	l = l[:cap(l)]
	for i := range l {
		l[i] = by
	}
}

// given is all that calls are handed in; behind stands in all spare room.
type given struct {
	p      api.Program
	runs   []api.Run
	bytes  [][]byte
	things []api.Do
}

func roomyAtom(a api.Atom, behind string) api.Atom {
	a.Terms = roomy(a.Terms, api.Term{Var: true, Name: behind})
	return a
}

func roomyFacts(l []api.Fact, behind string) []api.Fact {
	out := slices.Clone(l)
	for i, f := range out {
		out[i].Args = roomy(f.Args, behind)
	}
	return roomy(out, mk(behind, behind))
}

// handIn has runs that are right, and such as are wrong, and bytes likewise; of the
// things that are done some are refused.
func handIn(t *testing.T, behind string) given {
	var g given
	other := roomyAtom(api.Atom{Name: behind}, behind)
	p, runs := sample(t)
	for _, r := range p {
		r.Head = roomyAtom(r.Head, behind)
		for i, a := range r.Body {
			r.Body[i] = roomyAtom(a, behind)
		}
		r.Body = roomy(r.Body, other)
		g.p = append(g.p, r)
	}
	g.p = roomy(g.p, api.Rule{Head: other})
	for _, c := range wrongRuns() {
		runs = append(runs, c.r)
	}
	for _, r := range runs {
		r.Known, r.New = roomyFacts(r.Known, behind), roomyFacts(r.New, behind)
		g.runs = append(g.runs, r)
		if 0 <= r.Rounds && 0 <= r.Stratum && r.Stratum < 256 && r.Rounds < 1<<16 {
			b, last := raw(spelt(r)), byte(len(behind))
			g.bytes = append(g.bytes, roomy(b, last), roomy(b[:len(b)-1], last), roomy(append(b, 0), last))
		}
	}
	g.bytes = append(g.bytes, roomy([]byte{}, 1), roomy([]byte{0, 0, 0, 0}, 0))
	for _, x := range []api.Do{
		tell("e(a,b)"), tell("z"), tell("e(b,c)"), tell("E(a)"), rules(twoStrata), begin, step(1), save, prove("t(a,b)"), tell("e(c,d)"), begin, step(9),
		ask("t(X,Y)"), ask("e(X,Y), !u(X)"), ask("z"), prove("t(a,b)"), prove("u(b)"), prove("e(b,c)"), prove("z"), prove("e(a,b,c)"), back, step(9), ask("t(X,Y)"), save,
	} {
		x.Fact.Args = roomy(x.Fact.Args, behind)
		g.things = append(g.things, x)
	}
	g.things = roomy(g.things, tell("y"))
	return g
}

func wholeAtom(a api.Atom) string {
	return fmt.Sprintf("%v %q %d %q;", a.Not, a.Name, len(a.Terms), fmt.Sprint(a.Terms[:cap(a.Terms)]))
}

func wholeFacts(l []api.Fact) string {
	out := fmt.Sprint(len(l))
	for _, f := range l[:cap(l)] {
		out += fmt.Sprintf("%q %d %q;", f.Name, len(f.Args), f.Args[:cap(f.Args)])
	}
	return out
}

// whole tells all of it, with its spare room.
func (g given) whole() string {
	out := fmt.Sprint(len(g.p))
	for _, r := range g.p[:cap(g.p)] {
		out += wholeAtom(r.Head) + fmt.Sprint(len(r.Body))
		for _, a := range r.Body[:cap(r.Body)] {
			out += wholeAtom(a)
		}
	}
	for _, r := range g.runs {
		out += wholeFacts(r.Known) + wholeFacts(r.New) + fmt.Sprint(r.Stratum, r.Rounds, r.Done)
	}
	for _, b := range g.bytes {
		out += fmt.Sprint(len(b), b[:cap(b)])
	}
	for _, x := range g.things[:cap(g.things)] {
		out += fmt.Sprint(len(g.things), x.Kind, x.N, x.Text) + wholeFacts([]api.Fact{x.Fact})
	}
	return out
}

func spoilFacts(l []api.Fact) {
	for _, f := range l {
		spoil(f.Args, "spoilt")
	}
	spoil(l, mk("spoilt"))
}

func spoilAtoms(l []api.Atom) {
	for _, a := range l {
		spoil(a.Terms, api.Term{Name: "spoilt"})
	}
	spoil(l, api.Atom{Name: "spoilt"})
}

func spoilRules(p api.Program) {
	for _, r := range p {
		spoilAtoms([]api.Atom{r.Head})
		spoilAtoms(r.Body)
	}
	spoil(p, api.Rule{Head: api.Atom{Name: "spoilt"}})
}

func (g given) spoil() {
	spoilRules(g.p)
	for _, r := range g.runs {
		spoilFacts(r.Known)
		spoilFacts(r.New)
	}
	for _, b := range g.bytes {
		spoil(b, 99)
	}
	for _, x := range g.things {
		spoil(x.Fact.Args, "spoilt")
	}
	spoil(g.things, tell("spoilt"))
}

// answers is what comes of all calls.
type answers struct {
	bytes   [][]byte
	runs    []api.Run
	desks   []api.Desk
	answers [][]api.Answer
	errs    []api.Errno
}

func call(g given) *answers {
	out := &answers{}
	for _, p := range []api.Program{g.p, g.p[:0]} {
		for _, r := range g.runs {
			b, e := Save(p, r)
			out.bytes, out.errs = append(out.bytes, b), append(out.errs, e)
		}
		for _, b := range g.bytes {
			r, e := Load(p, b)
			out.runs, out.errs = append(out.runs, r), append(out.errs, e)
		}
	}
	for n := range len(g.things) + 1 {
		d, a, e := Play(g.things[:n])
		out.desks, out.answers, out.errs = append(out.desks, d), append(out.answers, a), append(out.errs, e)
	}
	return out
}

func (a *answers) tell() string {
	var out strings.Builder
	fmt.Fprint(&out, a.bytes, a.errs)
	for _, r := range a.runs {
		out.WriteString(toldRun(r))
	}
	for i, d := range a.desks {
		out.WriteString(toldDesk(d))
		for _, x := range a.answers[i] {
			out.WriteString(toldAnswer(x) + ";")
		}
	}
	return out.String()
}

func TestWhatIsHandedInIsOnlyRead(t *testing.T) {
	g := handIn(t, "zz")
	was := g.whole()
	call(g)
	if g.whole() != was {
		t.Error("a call changes what it is given")
	}
}

func TestSpareRoomIsNotLookedAt(t *testing.T) {
	wanted := call(handIn(t, "zz")).tell()
	for _, behind := range []string{"", "a", "X", "e", "t", "z", "NO", "y"} {
		if call(handIn(t, behind)).tell() != wanted {
			t.Errorf("with %q behind something else comes", behind)
		}
	}
}

func TestAnswersHangOnArgumentsAlone(t *testing.T) {
	g := handIn(t, "zz")
	wanted := call(g).tell()
	for range 20 {
		if call(g).tell() != wanted {
			t.Fatal("something else comes then")
		}
	}
}

func TestAnswersAreNewMemory(t *testing.T) {
	g := handIn(t, "zz")
	got := call(g)
	was := got.tell()
	g.spoil()
	if got.tell() != was {
		t.Error("what came changes with what was given")
	}
}

// lists collects all lists of an answer, each as what writes it over, and what tells
// whether it was, from the innermost on: those that hold others come behind these.
type lists struct {
	spoil []func()
	clean []func() bool
}

func keep[E any](l *lists, list []E, by E, spoilt func(E) bool) {
	l.spoil = append(l.spoil, func() { spoil(list, by) })
	l.clean = append(l.clean, func() bool { return !slices.ContainsFunc(list, spoilt) })
}

func (l *lists) facts(some []api.Fact) {
	for _, f := range some {
		keep(l, f.Args, "spoilt", func(s string) bool { return s == "spoilt" })
	}
	keep(l, some, mk("spoilt"), func(f api.Fact) bool { return f.Name == "spoilt" })
}

func (l *lists) atoms(some []api.Atom) {
	for _, a := range some {
		keep(l, a.Terms, api.Term{Name: "spoilt"}, func(x api.Term) bool { return x.Name == "spoilt" })
	}
	keep(l, some, api.Atom{Name: "spoilt"}, func(a api.Atom) bool { return a.Name == "spoilt" })
}

func (l *lists) run(r api.Run) {
	l.facts(r.Known)
	l.facts(r.New)
}

func (l *lists) raw(b []byte) { keep(l, b, 222, func(n byte) bool { return n == 222 }) }

func (l *lists) desk(d api.Desk) {
	l.facts(d.Told)
	for _, r := range d.Rules {
		l.atoms([]api.Atom{r.Head})
		l.atoms(r.Body)
	}
	keep(l, d.Rules, api.Rule{Head: api.Atom{Name: "spoilt"}}, func(r api.Rule) bool { return r.Head.Name == "spoilt" })
	l.run(d.Run)
	l.raw(d.Saved)
}

func (l *lists) proof(x api.Proof) {
	l.facts([]api.Fact{x.Fact})
	for _, k := range x.Kids {
		l.proof(k)
	}
	keep(l, x.Kids, api.Proof{Rule: 99}, func(k api.Proof) bool { return k.Rule == 99 })
}

func (l *lists) answers(some []api.Answer) {
	for _, a := range some {
		for _, b := range a.Binds {
			keep(l, b, api.Bind{Var: "spoilt"}, func(x api.Bind) bool { return x.Var == "spoilt" })
		}
		keep(l, a.Binds, make([]api.Bind, 99), func(b []api.Bind) bool { return len(b) == 99 })
		l.proof(a.Proof)
	}
	keep(l, some, api.Answer{At: 99}, func(a api.Answer) bool { return a.At == 99 })
}

// Each list that came is written over, with its spare room: nothing else may change
// by it, neither of what was given nor of what came.
func TestListsOfAnAnswerShareNothing(t *testing.T) {
	g := handIn(t, "zz")
	was, got := g.whole(), call(g)
	var l lists
	for _, b := range got.bytes {
		l.raw(b)
	}
	for _, r := range got.runs {
		l.run(r)
	}
	for i, d := range got.desks {
		l.desk(d)
		l.answers(got.answers[i])
	}
	if len(l.spoil) < 1000 {
		t.Fatalf("%d lists are looked at", len(l.spoil))
	}
	for i := range l.spoil {
		if !l.clean[i]() {
			t.Fatalf("list %d changes with one ahead of it", i)
		}
		l.spoil[i]()
	}
	if g.whole() != was {
		t.Error("what was given changes with what came")
	}
}

func TestNilAndEmptyAreTheSame(t *testing.T) {
	none := [][]api.Fact{nil, {}, make([]api.Fact, 0, 2)}
	for _, args := range [][]string{nil, {}, make([]string, 0, 2)} {
		for _, l := range none {
			for _, body := range [][]api.Atom{nil, {}, make([]api.Atom, 0, 2)} {
				p := api.Program{{Head: api.Atom{Name: "s", Terms: make([]api.Term, 0, 1)}, Body: body}}
				known := []api.Fact{{Name: "s", Args: args}}
				wantBytes(t, p, api.Run{Known: known, New: l}, raw("0 0 0 0 1 1 's 0 0"))
				wantBytes(t, p, api.Run{Known: known, New: list("s")}, raw("0 0 0 0 1 1 's 0 1"))
				wantBytes(t, p, api.Run{Known: l, New: l}, raw("0 0 0 0 0"))
				wantSaveError(t, p, api.Run{Known: l, New: known}, fit)
			}
			for _, p := range []api.Program{nil, {}, make(api.Program, 0, 2)} {
				wantBytes(t, p, done(api.Run{Known: l, New: l}), raw("0 0 0 1 0"))
				wantLoadError(t, p, nil, form)
				wantLoadError(t, p, []byte{}, form)
				wantLoadError(t, p, make([]byte, 0, 9), form)
			}
		}
		s := api.Do{Kind: api.DoTell, Fact: api.Fact{Name: "s", Args: args}}
		d := wantPlay(t, play{s, "1"}, play{tell("s"), "1"}, play{api.Do{Kind: api.DoProve, Fact: s.Fact}, "s/-1"})
		wantDesk(t, d, api.Desk{Told: list("s")})
	}
}

// Whatever is handed in, no call panics (Z1), and beside an error nothing comes (Z4).
func TestNoPanic(t *testing.T) {
	bad := func(s string) api.Term { return api.Term{Var: true, Name: s} }
	atoms := []api.Atom{{}, {Name: "e", Terms: []api.Term{bad("X"), bad("x")}, Not: true}, {Name: "e", Terms: []api.Term{bad("X")}}, {Name: "e", Terms: make([]api.Term, 9)}, {Name: "e"}}
	facts := []api.Fact{{}, mk("", ""), mk("e", "X", "x"), mk("e", "a"), mk("e"), mk("e", make([]string, 9)...), mk(strings.Repeat("e", 300))}
	for _, a := range atoms {
		for _, b := range atoms {
			p := api.Program{{Head: a, Body: []api.Atom{b}}, {Head: b}}
			for _, f := range facts {
				for _, g := range facts {
					for n := -1; n <= 2; n++ {
						l := []api.Fact{f, g}
						lookSaved(t, p, api.Run{Known: l, New: l[1:], Stratum: n, Rounds: 300 * n, Done: n%2 == 0})
						lookSaved(t, p[1:], api.Run{Known: l[:1], New: l[1:], Stratum: n})
						lookSaved(t, nil, api.Run{Known: l[1:], New: l, Rounds: n, Done: true})
					}
					for kind := -1; kind < 10; kind++ {
						lookPlayed(t, []api.Do{{Kind: kind, Fact: f}, begin, {Kind: kind, Fact: g, N: -1, Text: f.Name}, {Kind: kind, N: 5, Text: "\x00"}, back})
					}
				}
			}
		}
	}
}

func lookSaved(t *testing.T, p api.Program, r api.Run) {
	t.Helper()
	b, e := Save(p, r)
	if (e == ok) == (len(b) == 0) {
		t.Errorf("%s comes beside %v", errName(e), b)
	}
	got, loaded := Load(p, b)
	if loaded != ok && toldRun(got) != toldRun(api.Run{}) {
		t.Errorf("%s comes beside %s", errName(loaded), toldRun(got))
	}
	if again, _ := Save(p, got); loaded == ok && !bytes.Equal(again, b) {
		t.Errorf("%v comes of %v", again, b)
	}
}

func lookPlayed(t *testing.T, l []api.Do) {
	t.Helper()
	_, a, e := Play(l)
	if e != ok || len(a) != len(l) {
		t.Errorf("%v: %d answers, %s comes", l, len(a), errName(e))
	}
	for _, x := range a {
		if at := fmt.Sprint(" at ", x.At); x.Err != ok && strings.TrimSuffix(toldAnswer(x), at) != errName(x.Err) {
			t.Errorf("%s comes beside an error", toldAnswer(x))
		}
	}
}
