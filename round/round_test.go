package round

import (
	"cmp"
	"fmt"
	"math"
	"slices"
	"strings"
	"testing"

	"corollary/api"
	"corollary/naive"
	"corollary/syntax"
)

const (
	ok   = api.OK
	form = api.ErrForm
	rang = api.ErrRange
	much = api.ErrMuch
	many = api.ErrMany
	name = api.ErrName
	fit  = api.ErrFit
	free = api.ErrFree
	loop = api.ErrLoop
)

func variable(s string) api.Term { return api.Term{Var: true, Name: s} }

func named(s string) api.Term { return api.Term{Name: s} }

func atom(s string, terms ...api.Term) api.Atom { return api.Atom{Name: s, Terms: terms} }

func not(a api.Atom) api.Atom {
	a.Not = true
	return a
}

func mk(name string, args ...string) api.Fact { return api.Fact{Name: name, Args: args} }

func parse(t *testing.T, s string) api.Program {
	t.Helper()
	p, f := syntax.Parse(s)
	if f.Err != api.OK {
		t.Fatalf("Parse(%q): %v", s, f)
	}
	return p
}

// list reads facts with blanks between them, as they stand there.
func list(s string) []api.Fact {
	var out []api.Fact
	for _, w := range strings.Fields(s) {
		f, args, some := strings.Cut(strings.TrimSuffix(w, ")"), "(")
		if some {
			out = append(out, mk(f, strings.Split(args, ",")...))
		} else {
			out = append(out, mk(f))
		}
	}
	return out
}

// told writes facts as list reads them; a name without bytes is written as ?, so
// that such a fact is not taken for none.
func told(l []api.Fact) string {
	var out []string
	for _, f := range l {
		s := cmp.Or(f.Name, "?")
		if len(f.Args) > 0 {
			s += "(" + strings.Join(f.Args, ",") + ")"
		}
		out = append(out, s)
	}
	return strings.Join(out, " ")
}

// count has n facts of a name that rise, of one Arg each.
func count(name string, n int) []api.Fact {
	var out []api.Fact
	for i := range n {
		out = append(out, mk(name, fmt.Sprintf("n%04d", i)))
	}
	return out
}

// run reads a run: what is known, what is new, the stratum, and the rounds.
func run(known, fresh string, stratum, rounds int) api.Run {
	return api.Run{Known: list(known), New: list(fresh), Stratum: stratum, Rounds: rounds}
}

func done(r api.Run) api.Run {
	r.Done = true
	return r
}

// all has everything that is known as new.
func all(known string, stratum, rounds int) api.Run { return run(known, known, stratum, rounds) }

func toldRun(r api.Run) string {
	return fmt.Sprintf("[%s] [%s] stratum %d, round %d, %v", told(r.Known), told(r.New), r.Stratum, r.Rounds, r.Done)
}

// wantRun looks at what a call answered: this run, or an error, and nothing beside
// it (Z4).
func wantRun(t *testing.T, call string, got api.Run, e api.Errno, r api.Run, err api.Errno) {
	t.Helper()
	if toldRun(got) != toldRun(r) || e != err {
		t.Errorf("%.300s: %.600s %d comes, not %.600s %d", call, toldRun(got), e, toldRun(r), err)
	}
}

func wantBegin(t *testing.T, p api.Program, l []api.Fact, r api.Run) {
	t.Helper()
	got, e := Begin(p, l)
	wantRun(t, fmt.Sprintf("Begin(%v, %s)", p, told(l)), got, e, r, ok)
}

// wantRefused: Begin and All tell the same error, and Wrong tells it of a run that
// has no numbers that could be wrong, too.
func wantRefused(t *testing.T, p api.Program, l []api.Fact, err api.Errno) {
	t.Helper()
	call := fmt.Sprintf("of %v, %s", p, told(l))
	got, e := Begin(p, l)
	wantRun(t, "Begin "+call, got, e, api.Run{}, err)
	facts, e := All(p, l)
	if len(facts) != 0 || e != err {
		t.Errorf("All %.300s: %.300s %d comes, not %d", call, told(facts), e, err)
	}
	wantWrong(t, p, api.Run{Known: l}, err)
}

func wantAll(t *testing.T, p api.Program, l []api.Fact, facts string) {
	t.Helper()
	if got, e := All(p, l); told(got) != facts || e != ok {
		t.Errorf("All(%v, %s): %.300s %d comes, not %.300s", p, told(l), told(got), e, facts)
	}
}

// wantWrong asks Step and Steps, too, even of as many rounds as there may not be:
// what is wrong comes first.
func wantWrong(t *testing.T, p api.Program, r api.Run, err api.Errno) {
	t.Helper()
	call := fmt.Sprintf("of %v, %s", p, toldRun(r))
	if e := Wrong(p, r); e != err {
		t.Errorf("Wrong %.500s: %d comes, not %d", call, e, err)
	}
	if err == ok {
		return
	}
	got, e := Step(p, r)
	wantRun(t, "Step "+call, got, e, api.Run{}, err)
	for _, n := range []int{0, 1, api.MaxSteps, -1, api.MaxSteps + 1} {
		got, e := Steps(p, r, n)
		wantRun(t, fmt.Sprint("Steps ", n, call), got, e, api.Run{}, err)
	}
}

// wantStep asks Steps of one, too, which is the same.
func wantStep(t *testing.T, p api.Program, r, next api.Run) {
	t.Helper()
	got, e := Step(p, r)
	wantRun(t, fmt.Sprintf("Step(%v, %s)", p, toldRun(r)), got, e, next, ok)
	wantSteps(t, p, r, 1, next)
	wantWrong(t, p, r, ok)
	wantWrong(t, p, next, ok)
}

func wantStepError(t *testing.T, p api.Program, r api.Run, err api.Errno) {
	t.Helper()
	got, e := Step(p, r)
	wantRun(t, fmt.Sprintf("Step(%v, %s)", p, toldRun(r)), got, e, api.Run{}, err)
	for _, n := range []int{1, 2, api.MaxSteps} {
		wantStepsError(t, p, r, n, err)
	}
	wantWrong(t, p, r, ok)
	wantSteps(t, p, r, 0, r)
}

func wantSteps(t *testing.T, p api.Program, r api.Run, n int, last api.Run) {
	t.Helper()
	got, e := Steps(p, r, n)
	wantRun(t, fmt.Sprintf("Steps(%v, %s, %d)", p, toldRun(r), n), got, e, last, ok)
}

func wantStepsError(t *testing.T, p api.Program, r api.Run, n int, err api.Errno) {
	t.Helper()
	got, e := Steps(p, r, n)
	wantRun(t, fmt.Sprintf("Steps(%v, %s, %d)", p, toldRun(r), n), got, e, api.Run{}, err)
}

// wantRounds begins, and makes round by round; the last one is Done. However many
// rounds are made at once, they come to the same.
func wantRounds(t *testing.T, text, l string, runs ...api.Run) {
	t.Helper()
	p := parse(t, text)
	wantBegin(t, p, list(l), runs[0])
	for i := range runs[1:] {
		wantStep(t, p, runs[i], runs[i+1])
	}
	last := runs[len(runs)-1]
	if !last.Done {
		t.Errorf("the last run %s is not Done", toldRun(last))
	}
	for i, r := range runs {
		for n := range len(runs) + 2 {
			wantSteps(t, p, r, n, runs[min(i+n, len(runs)-1)])
		}
		wantSteps(t, p, r, api.MaxSteps, last)
	}
	wantStep(t, p, last, last)
	wantAll(t, p, list(l), told(last.Known))
}

// Example 6.
func TestOneRuleAndOneFact(t *testing.T) {
	wantRounds(t, "b(X) :- a(X).", "a(q)",
		all("a(q)", 0, 0),
		run("a(q) b(q)", "b(q)", 0, 1),
		done(all("a(q) b(q)", 1, 2)))
}

func TestNoRules(t *testing.T) {
	wantRounds(t, "", "", done(all("", 0, 0)))
	wantRounds(t, "", "a(x) b", done(all("a(x) b", 0, 0)))
}

func TestNothingFollows(t *testing.T) {
	wantRounds(t, "b(X) :- a(X).", "", all("", 0, 0), done(all("", 1, 1)))
	wantRounds(t, "b(X) :- a(X).", "c", all("c", 0, 0), done(all("c", 1, 1)))
	wantRounds(t, "b(X) :- a(X).", "a(q) b(q)", all("a(q) b(q)", 0, 0), done(all("a(q) b(q)", 1, 1)))
	wantRounds(t, "a(X) :- a(X).", "a(q)", all("a(q)", 0, 0), done(all("a(q)", 1, 1)))
}

func TestWithoutABody(t *testing.T) {
	wantRounds(t, "a. b(x,y).", "",
		all("", 0, 0), run("a b(x,y)", "a b(x,y)", 0, 1), done(all("a b(x,y)", 1, 2)))
	wantRounds(t, "a. b(x,y).", "a c",
		all("a c", 0, 0), run("a b(x,y) c", "b(x,y)", 0, 1), done(all("a b(x,y) c", 1, 2)))
	wantRounds(t, "a. b :- a.", "",
		all("", 0, 0), run("a", "a", 0, 1), run("a b", "b", 0, 2), done(all("a b", 1, 3)))
}

func TestOnlyNotAtoms(t *testing.T) {
	wantRounds(t, "b :- !c.", "", all("", 0, 0), run("b", "b", 0, 1), done(all("b", 1, 2)))
	wantRounds(t, "b :- !c.", "c", all("c", 0, 0), done(all("c", 1, 1)))
	wantRounds(t, "b :- !c, !d(x).", "d(y)", all("d(y)", 0, 0), run("b d(y)", "b", 0, 1), done(all("b d(y)", 1, 2)))
	wantRounds(t, "b :- !c, !d(x).", "d(x)", all("d(x)", 0, 0), done(all("d(x)", 1, 1)))
	wantRounds(t, "c. b :- !c.", "", all("", 0, 0), run("c", "c", 0, 1), all("c", 1, 2), done(all("c", 2, 3)))
}

func TestNotAtomsAndOthers(t *testing.T) {
	wantRounds(t, "b(X) :- !c(X), a(X).", "a(x) a(y) c(y)",
		all("a(x) a(y) c(y)", 0, 0),
		run("a(x) a(y) b(x) c(y)", "b(x)", 0, 1),
		done(all("a(x) a(y) b(x) c(y)", 1, 2)))
	wantRounds(t, "b(X) :- a(X), !c(X). c(X) :- d(X).", "a(x) a(y) d(y)",
		all("a(x) a(y) d(y)", 0, 0),
		run("a(x) a(y) c(y) d(y)", "c(y)", 0, 1),
		all("a(x) a(y) c(y) d(y)", 1, 2),
		run("a(x) a(y) b(x) c(y) d(y)", "b(x)", 1, 3),
		done(all("a(x) a(y) b(x) c(y) d(y)", 2, 4)))
}

// Three ways, of two roads: the longer one a round later.
func TestWays(t *testing.T) {
	wantRounds(t, "w(X,Y) :- r(X,Y). w(X,Z) :- w(X,Y), r(Y,Z).", "r(a,b) r(b,c)",
		all("r(a,b) r(b,c)", 0, 0),
		run("r(a,b) r(b,c) w(a,b) w(b,c)", "w(a,b) w(b,c)", 0, 1),
		run("r(a,b) r(b,c) w(a,b) w(a,c) w(b,c)", "w(a,c)", 0, 2),
		done(all("r(a,b) r(b,c) w(a,b) w(a,c) w(b,c)", 1, 3)))
}

// What several rules, and several atoms of one rule, make in a round is New
// together, and what it makes comes a round later.
func TestRulesOfOneRound(t *testing.T) {
	wantRounds(t, "d :- c. c :- b. b :- a. c :- a.", "a",
		all("a", 0, 0),
		run("a b c", "b c", 0, 1),
		run("a b c d", "d", 0, 2),
		done(all("a b c d", 1, 3)))
	wantRounds(t, "a(Y,X) :- a(X,Y). b(X) :- a(X,Y), a(Y,X).", "a(p,q)",
		all("a(p,q)", 0, 0),
		run("a(p,q) a(q,p)", "a(q,p)", 0, 1),
		run("a(p,q) a(q,p) b(p) b(q)", "b(p) b(q)", 0, 2),
		done(all("a(p,q) a(q,p) b(p) b(q)", 1, 3)))
}

// A stratum begins with all that is Known as New, and only its own rules are asked.
func TestStrata(t *testing.T) {
	wantRounds(t, "d(X) :- c(X), !e(X). c(X) :- a(X), !k(X). k(X) :- b(X).", "a(x)",
		all("a(x)", 0, 0),
		all("a(x)", 1, 1),
		run("a(x) c(x)", "c(x)", 1, 2),
		run("a(x) c(x) d(x)", "d(x)", 1, 3),
		done(all("a(x) c(x) d(x)", 2, 4)))
	wantRounds(t, "l :- k, !m. m :- k, !n. n :- a(X), !o.", "a(x) b(x) k",
		all("a(x) b(x) k", 0, 0),
		run("a(x) b(x) k n", "n", 0, 1),
		all("a(x) b(x) k n", 1, 2),
		all("a(x) b(x) k n", 2, 3),
		run("a(x) b(x) k l n", "l", 2, 4),
		done(all("a(x) b(x) k l n", 3, 5)))
}

func TestBeginErrors(t *testing.T) {
	for _, c := range []struct {
		p, l string
		err  api.Errno
	}{
		{"a :- !a.", "", loop},
		{"a :- !b. b :- a.", "A", loop},
		{"a :- !a. b. b(x).", "b a", fit},
		{"a(X).", "B", free},
		{"a(X) :- !b(X).", "b a", free},
		{"a(x). b :- a.", "a", fit},
		{"a.", "b a", form},
		{"a.", "a a", form},
		{"", "a a", form},
		{"a.", "a(X)", name},
		{"a.", "B", name},
		{"a.", "b(1,2,3,4,5)", many},
		{"a.", "a(x)", fit},
		{"a :- b(X).", "b", fit},
		{"a :- !b(x).", "b(x,y)", fit},
		{"a.", "a(x) B", name},
		{"a.", "a(x) a", form},
	} {
		wantRefused(t, parse(t, c.p), list(c.l), c.err)
	}
	wantRefused(t, make(api.Program, api.MaxRules+1), list("b a"), many)
	wantRefused(t, make(api.Program, 1), list("b a"), name)
	wantRefused(t, api.Program{{Head: not(atom("a"))}}, list("b a"), form)
	wantRefused(t, nil, count("q", api.MaxFacts+1), many)
	wantRefused(t, parse(t, "a."), append(count("q", api.MaxFacts), mk("A")), many)
}

// Numbers that are allowed, and such as are not, of a program of two strata, in
// each of them, and behind them.
func TestWrongNumbers(t *testing.T) {
	p := parse(t, "a :- b. c :- !a.")
	most := api.MaxSteps
	far := []int{math.MinInt, -1 << 32, 1 << 32, math.MaxInt}
	for _, rounds := range append(far, -1, 0, 1, 2, most-1, most, most+1) {
		for _, stratum := range append(far, -1, 0, 1, 2, 3, most) {
			for _, is := range []bool{false, true} {
				r := run("b", "b", stratum, rounds)
				r.Done = is
				err := rang
				if rounds >= 0 && rounds <= most && (stratum == 0 && !is || stratum == 1 && !is || stratum == 2 && is) {
					err = ok
				}
				wantWrong(t, p, r, err)
			}
		}
	}
}

func TestWrongNumbersWithoutRules(t *testing.T) {
	wantWrong(t, nil, api.Run{}, rang)
	wantWrong(t, nil, done(api.Run{}), ok)
	wantWrong(t, nil, done(all("a b", 0, api.MaxSteps)), ok)
	wantWrong(t, nil, done(all("a b", 0, api.MaxSteps+1)), rang)
	wantWrong(t, nil, all("a b", 1, 0), rang)
	wantWrong(t, nil, done(all("a b", 1, 0)), rang)
	wantWrong(t, nil, done(all("a b", -1, 0)), rang)
}

func TestWrongFacts(t *testing.T) {
	p := parse(t, "a(X) :- b(X).")
	for _, c := range []struct {
		known, fresh string
		err          api.Errno
	}{
		{"", "", ok},
		{"a(x) b(x)", "", ok},
		{"a(x) b(x)", "a(x)", ok},
		{"a(x) b(x)", "b(x)", ok},
		{"a(x) b(x)", "a(x) b(x)", ok},
		{"a(x) b(y) c", "c", ok},
		{"", "a(x)", fit},
		{"a(x)", "a(y)", fit},
		{"a(x)", "a(x) b(x)", fit},
		{"b(x)", "a(x) b(x)", fit},
		{"a(x) c", "b(x)", fit},
		{"a(x)", "a", fit},
		{"b(x) a(x)", "", form},
		{"a(x) a(x)", "", form},
		{"a(X)", "", name},
		{"A(x)", "", name},
		{"a", "", fit},
		{"b(x,y)", "", fit},
		{"c(1,2,3,4,5)", "", many},
		{"a(x) b(x)", "b(x) a(x)", form},
		{"a(x) b(x)", "a(x) a(x)", form},
		{"", "A", name},
		{"", "a(X)", name},
		{"", "c(1,2,3,4,5)", many},
	} {
		wantWrong(t, p, run(c.known, c.fresh, 0, 0), c.err)
	}
	all := count("q", api.MaxFacts)
	wantWrong(t, p, api.Run{Known: all, New: all}, ok)
	wantWrong(t, p, api.Run{Known: append(all, mk("r"))}, many)
	wantWrong(t, p, api.Run{Known: all, New: append(all, mk("r"))}, many)
	wantWrong(t, p, api.Run{Known: all, New: append(all[1:], mk("r"))}, fit)
}

// Where several fit, the first one in the chapter's order is told.
func TestWhichWrongIsFirst(t *testing.T) {
	p := parse(t, "a(X) :- b(X).")
	for _, c := range []struct {
		p            string
		known, fresh string
		stratum      int
		err          api.Errno
	}{
		{"a(X) :- b(X), !a(X).", "b a", "B", -1, loop},
		{"a(X) :- b(Y).", "b a", "B", -1, free},
		{"a(X) :- b(X).", "c a", "B", -1, form},
		{"a(X) :- b(X).", "c B", "b a", -1, name},
		{"a(X) :- b(X).", "a", "B", -1, fit},
		{"a(X) :- b(X).", "a(x)", "B", -1, name},
		{"a(X) :- b(X).", "a(x)", "d c", -1, form},
		{"a(X) :- b(X).", "a(x)", "b", -1, rang},
		{"a(X) :- b(X).", "a(x)", "b", 1, rang},
		{"a(X) :- b(X).", "a(x)", "b", 0, fit},
	} {
		wantWrong(t, parse(t, c.p), run(c.known, c.fresh, c.stratum, 0), c.err)
	}
	wantWrong(t, p, run("a(x)", "b", 0, -1), rang)
	wantWrong(t, p, run("a(x)", "b", 0, api.MaxSteps+1), rang)
	wantWrong(t, p, run("a(x)", "b", 0, api.MaxSteps), fit)
	wantWrong(t, p, done(run("a(x)", "b", 0, 0)), rang)
	wantWrong(t, p, done(run("a(x)", "b", 1, 0)), fit)
	wantWrong(t, make(api.Program, api.MaxRules+1), run("b a", "", 0, 0), many)
}

// Of a run that was never begun nothing follows but from what is New in it.
func TestNeverBegun(t *testing.T) {
	p := parse(t, "c(X) :- a(X), b(X). d. e :- !k. f(X) :- c(X), !d. g :- !d.")
	wantStep(t, p, run("a(x) b(x)", "", 0, 7), run("a(x) b(x) d e", "d e", 0, 8))
	wantStep(t, p, run("a(x) b(x) d e", "", 0, 8), all("a(x) b(x) d e", 1, 9))
	wantStep(t, p, run("a(x) a(y) b(x) b(y) d e", "b(y)", 0, 0), run("a(x) a(y) b(x) b(y) c(y) d e", "c(y)", 0, 1))
	wantStep(t, p, run("a(x) a(y) b(x) b(y) d e", "a(y) b(x)", 0, 0), run("a(x) a(y) b(x) b(y) c(x) c(y) d e", "c(x) c(y)", 0, 1))
	wantStep(t, p, run("a(x) b(y)", "a(x) b(y)", 0, 0), run("a(x) b(y) d e", "d e", 0, 1))
	wantStep(t, p, run("d e k", "d", 0, 0), all("d e k", 1, 1))
	wantStep(t, p, run("c(x)", "", 1, 0), run("c(x) g", "g", 1, 1))
	wantStep(t, p, run("c(x) g", "", 1, 0), done(all("c(x) g", 2, 1)))
	wantStep(t, p, run("c(x) c(y)", "c(y)", 1, 3), run("c(x) c(y) f(y) g", "f(y) g", 1, 4))
	wantStep(t, p, run("c(x) c(y) d", "c(y) d", 1, 3), done(all("c(x) c(y) d", 2, 4)))
	wantSteps(t, p, run("a(x) b(x) d e", "", 0, 990), 1000, done(all("a(x) b(x) d e", 2, 992)))
}

// Not atoms are asked of all that is Known, never of what is New alone; of the
// others one at a time is met by what is New.
func TestNewForOneAtomAtATime(t *testing.T) {
	p := parse(t, "c(X,Y,Z) :- a(X), !b(X), a(Y), !b(Z), a(Z).")
	wantStep(t, p, run("a(p) a(q)", "a(q)", 0, 0),
		run("a(p) a(q) c(p,p,q) c(p,q,p) c(p,q,q) c(q,p,p) c(q,p,q) c(q,q,p) c(q,q,q)", "c(p,p,q) c(p,q,p) c(p,q,q) c(q,p,p) c(q,p,q) c(q,q,p) c(q,q,q)", 0, 1))
	wantStep(t, p, run("a(p) a(q) b(q)", "a(q)", 0, 0), run("a(p) a(q) b(q) c(p,q,p)", "c(p,q,p)", 0, 1))
	wantStep(t, p, run("a(p) a(q) b(p)", "a(q)", 0, 0), run("a(p) a(q) b(p) c(q,p,q) c(q,q,q)", "c(q,p,q) c(q,q,q)", 0, 1))
	wantStep(t, p, run("a(p) a(q) b(p) b(q)", "a(q)", 0, 0), done(all("a(p) a(q) b(p) b(q)", 1, 1)))
	wantStep(t, p, run("a(p) b(q)", "b(q)", 0, 0), done(all("a(p) b(q)", 1, 1)))
}

// A run that is Done comes back as it is, whatever is New in it.
func TestDone(t *testing.T) {
	p := parse(t, "b :- a. c :- !b.")
	for _, r := range []api.Run{
		all("", 2, 0), all("a", 2, 3), run("a b", "b", 2, 5), run("a b", "", 2, api.MaxSteps), all("a c", 2, api.MaxSteps),
	} {
		r.Done = true
		wantStep(t, p, r, r)
		for _, n := range []int{0, 1, 2, api.MaxSteps} {
			wantSteps(t, p, r, n, r)
		}
		wantStepsError(t, p, r, -1, rang)
		wantStepsError(t, p, r, api.MaxSteps+1, rang)
	}
}

func TestStepsOfTooManyAndTooFew(t *testing.T) {
	p := parse(t, "b :- a.")
	r := all("a", 0, 0)
	for _, n := range []int{-1, api.MaxSteps + 1, math.MinInt, math.MaxInt, -1 << 32, 1 << 32} {
		wantStepsError(t, p, r, n, rang)
		wantStepsError(t, p, all("a", 0, api.MaxSteps), n, rang)
		wantStepsError(t, nil, done(r), n, rang)
	}
	wantSteps(t, p, r, 0, r)
	wantSteps(t, p, r, api.MaxSteps, done(all("a b", 1, 2)))
}

func TestMaxSteps(t *testing.T) {
	p := parse(t, "b :- a. c :- !b.")
	most := api.MaxSteps
	wantStepError(t, p, all("a", 0, most), many)
	wantStepError(t, p, all("a", 1, most), many)
	wantStepError(t, p, run("", "", 0, most), many)
	wantStep(t, p, all("a", 0, most-1), run("a b", "b", 0, most))
	wantSteps(t, p, all("a", 0, most-1), 1, run("a b", "b", 0, most))
	wantStepsError(t, p, all("a", 0, most-1), 2, many)
	wantSteps(t, p, all("a", 0, most-3), 3, done(all("a b", 2, most)))
	wantSteps(t, p, all("a", 0, most-3), most, done(all("a b", 2, most)))
	wantStepsError(t, p, all("a", 0, most-2), most, many)
	wantSteps(t, p, all("a", 0, most-2), 2, all("a b", 1, most))
	wantStep(t, p, all("a b", 1, most-1), done(all("a b", 2, most)))
}

// n rounds in two parts are as many at once, and come to what All and chapter 5
// come to, wherever it stopped.
func TestStoppedAndGoneOnWith(t *testing.T) {
	l := list("e(a,b) e(b,c) e(c,d) e(d,b) v(a) v(b) v(z)")
	for _, s := range []string{
		"t(X,Y) :- e(X,Y). t(X,Z) :- t(X,Y), e(Y,Z). n(X) :- v(X), !t(a,X). o(X) :- v(X), !n(X).",
		"o(X) :- v(X), !n(X). n(X) :- v(X), !t(a,X). t(X,Z) :- t(X,Y), t(Y,Z). t(X,Y) :- e(X,Y).",
		"p(X,Y) :- e(X,Y), !e(Y,X). p(X,Z) :- p(X,Y), e(Y,Z), v(W). k :- !m. m :- !p(a,a).",
	} {
		p := parse(t, s)
		first, e := Begin(p, l)
		last, err := naive.All(p, l)
		if e != ok || err != ok {
			t.Fatalf("%d %d comes of %s", e, err, s)
		}
		wantAll(t, p, l, told(last))
		for n := range 20 {
			for m := range 20 {
				both, _ := Steps(p, first, n+m)
				some, _ := Steps(p, first, n)
				wantSteps(t, p, some, m, both)
				if both.Done && told(both.Known) != told(last) {
					t.Fatalf("%s comes of %s, not %s", told(both.Known), s, told(last))
				}
			}
		}
	}
}

// Rules in whatever order, and each of them as often as may be, make the same
// rounds.
func TestOrderOfRules(t *testing.T) {
	l := list("e(a,b) e(b,c) v(a)")
	p := parse(t, "t(X,Z) :- t(X,Y), e(Y,Z). n(X) :- v(X), !t(X,X). t(X,Y) :- e(X,Y). k :- n(X), v(X).")
	back := slices.Clone(p)
	slices.Reverse(back)
	for _, q := range []api.Program{back, slices.Concat(p[2:], p[:2]), slices.Concat(p, back, p, back)} {
		a, _ := Begin(p, l)
		for !a.Done {
			b, e := Step(p, a)
			if e != ok {
				t.Fatal(e)
			}
			wantStep(t, q, a, b)
			a = b
		}
	}
}
