package round

import (
	"fmt"
	"testing"

	"corollary/api"
	"corollary/fact"
	"corollary/naive"
)

// begun is a run of all these facts, in any order, behind no rounds.
func begun(l ...[]api.Fact) api.Run {
	var known []api.Fact
	for _, f := range l {
		known = fact.Join(known, f)
	}
	return api.Run{Known: known, New: known}
}

// wantNew steps once: n facts come, and are New, and Known.
func wantNew(t *testing.T, text string, r api.Run, n int) {
	t.Helper()
	p := parse(t, text)
	got, e := Step(p, r)
	if e != ok || len(got.New) != n || len(got.Known) != len(r.Known)+n || got.Stratum != r.Stratum || got.Rounds != r.Rounds+1 {
		t.Errorf("%s, of %d facts: %d New, %d Known, %d comes, not %d New", text, len(r.Known), len(got.New), len(got.Known), e, n)
	}
	wantWrong(t, p, got, ok)
}

// wantNothing steps once, of one stratum: nothing comes.
func wantNothing(t *testing.T, text string, r api.Run) {
	t.Helper()
	wantStep(t, parse(t, text), r, done(api.Run{Known: r.Known, New: r.Known, Stratum: 1, Rounds: r.Rounds + 1}))
}

// wantRefusedStep: All tells that error, too, since the first round does.
func wantRefusedStep(t *testing.T, text string, r api.Run, err api.Errno) {
	t.Helper()
	p := parse(t, text)
	wantStepError(t, p, r, err)
	if got, e := All(p, r.Known); len(r.New) == len(r.Known) && (e != err || len(got) != 0) {
		t.Errorf("All of %s: %d facts, %d comes, not %d", text, len(got), e, err)
	}
}

func TestManyFacts(t *testing.T) {
	half := api.MaxFacts / 2
	wantNew(t, "r(X) :- q(X).", begun(count("q", half)), half)
	wantRefusedStep(t, "r(X) :- q(X).", begun(count("q", half+1)), many)
	wantRefusedStep(t, "r(X) :- q(X).", begun(count("q", half), list("z")), many)
	wantNew(t, "r(X) :- q(X).", begun(count("q", half-1), list("y z")), half-1)
	wantNew(t, "r(X,Y) :- q(X), q(Y).", begun(count("q", 13), count("z", 18)), 169)
	wantRefusedStep(t, "r(X,Y) :- q(X), q(Y).", begun(count("q", 13), count("z", 19)), many)
	wantRefusedStep(t, "r(X,Y) :- q(X), q(Y).", begun(count("q", 100), count("z", 100)), many)
	wantNew(t, "z.", begun(count("q", api.MaxFacts-1)), 1)
	wantRefusedStep(t, "z.", begun(count("q", api.MaxFacts)), many)
	wantNew(t, "z :- !u.", begun(count("q", api.MaxFacts-1)), 1)
	wantRefusedStep(t, "z :- !u.", begun(count("q", api.MaxFacts)), many)
}

func TestManyFactsOfSeveralRules(t *testing.T) {
	two := "r(X) :- q(X). s(X) :- q(X). "
	wantNew(t, two, begun(count("q", 66), list("y z")), 132)
	wantRefusedStep(t, two, begun(count("q", 66), list("x y z")), many)
	wantNew(t, two+"t.", begun(count("q", 66), list("z")), 133)
	wantRefusedStep(t, two+"t.", begun(count("q", 66), list("y z")), many)
	wantRefusedStep(t, "t. "+two, begun(count("q", 66), list("y z")), many)
}

// What several rules, or several atoms of one, make, counts once; what was Known
// not at all.
func TestWhatIsMadeTwiceCountsOnce(t *testing.T) {
	half := api.MaxFacts / 2
	wantNew(t, "r(X) :- q(X). r(X) :- q(X), q(X). r(Y) :- q(X), q(Y).", begun(count("q", half)), half)
	wantNew(t, "r(X) :- q(X).", begun(count("q", half), count("r", half-1)), 1)
	wantNew(t, "r(X) :- q(X). q(X) :- q(X).", begun(count("q", half), count("r", half-5)), 5)
	wantNothing(t, "r(X) :- q(X). q(X) :- r(X).", begun(count("q", half), count("r", half)))
}

// Only what comes counts: New alone makes it, however much is Known.
func TestManyFactsOfWhatIsNew(t *testing.T) {
	r := begun(count("q", 150))
	r.New = r.New[:50]
	wantNew(t, "r(X) :- q(X).", r, 50)
	r.New = r.Known[:51]
	wantRefusedStep(t, "r(X) :- q(X).", r, many)
	r.New = r.Known[100:]
	wantNew(t, "r(X) :- q(X).", r, 50)
}

// The middle atom's New alone may be too much, or the first one's, or the last one's.
func TestMuchByOneAtom(t *testing.T) {
	q, r, s := count("q", 20), count("r", 25), count("s", 40)
	text := "x :- q(X), r(Y), s(Z)."
	lists := begun(q, r, s)
	wantNew(t, text, lists, 1)
	more := begun(q, r, count("s", 41))
	wantRefusedStep(t, text, more, much)
	for _, fresh := range [][]api.Fact{count("q", 20), count("r", 25), count("s", 41)} {
		more.New = fresh
		wantRefusedStep(t, text, more, much)
		more.New = fresh[1:]
		wantNew(t, text, more, 1)
	}
	more.New = nil
	wantNothing(t, text, more)
}

// All lists ahead of the New atom are made, too, and may be too much by themselves.
func TestMuchAheadOfTheAtom(t *testing.T) {
	r := begun(count("q", 28), list("u"))
	r.New = list("u")
	wantRefusedStep(t, "x :- q(X), q(Y), q(Z), u.", r, much)
	wantNew(t, "x :- u, q(X), q(Y).", r, 1)
	wantRefusedStep(t, "x :- u, q(X), q(Y), q(Z).", r, much)
	r.New = nil
	wantRefusedStep(t, "x :- q(X), q(Y), q(Z), u.", r, much)
	wantNothing(t, "x :- u, q(X), q(Y), q(Z).", r)
}

// An error of any rule's is told ahead of there being too many, and Rounds at
// MaxSteps ahead of both.
func TestWhichErrorOfStepIsToldFirst(t *testing.T) {
	tooMuch, tooMany := "x :- q(X), q(Y), q(Z). ", "r(X) :- q(X). "
	some := begun(count("q", 28), count("z", 170))
	for _, s := range []string{tooMuch, tooMuch + tooMany, tooMany + tooMuch, "a. b. c. " + tooMuch, "r(X,Y) :- q(X), q(Y). " + tooMuch} {
		wantRefusedStep(t, s, some, much)
	}
	wantRefusedStep(t, tooMany, some, many)
	wantRefusedStep(t, "r(X,Y,Z) :- q(X), q(Y), q(Z).", some, much)
	some.Rounds = api.MaxSteps
	wantStepError(t, parse(t, tooMuch), some, many)
	wantStepError(t, parse(t, "a."), some, many)
}

// An error of a stratum's rules is told in no other one.
func TestErrorsOfOtherStrata(t *testing.T) {
	p := parse(t, "x :- q(X), q(Y), q(Z), !low. low :- u. v.")
	r := begun(count("q", 28))
	for range 2 {
		next, e := Step(p, r)
		if e != ok {
			t.Fatalf("stratum 0, round %d: %d comes", r.Rounds, e)
		}
		r = next
	}
	if r.Stratum != 1 {
		t.Fatalf("%s comes", toldRun(r))
	}
	wantStepError(t, p, r, much)
	high := parse(t, "low :- q(X), q(Y), q(Z). x :- w(X), !low.")
	wantStep(t, high, api.Run{Known: r.Known, Stratum: 1}, done(api.Run{Known: r.Known, New: r.Known, Stratum: 2, Rounds: 1}))
}

// chain has n steps, one behind the other, and where they begin.
func chain(n int) []api.Fact {
	out := []api.Fact{mk("at", "n0000")}
	for i := range n {
		out = append(out, mk("step", fmt.Sprintf("n%04d", i), fmt.Sprintf("n%04d", i+1)))
	}
	return out
}

// By one fact a round, MaxFacts are reached, or passed, only in the last one.
func TestManyRounds(t *testing.T) {
	p := parse(t, "at(Y) :- at(X), step(X,Y).")
	l := append(chain(99), mk("z"))
	r, e := Begin(p, l)
	for n := range 99 {
		r, e = Step(p, r)
		if e != ok || told(r.New) != fmt.Sprintf("at(n%04d)", n+1) || len(r.Known) != len(l)+n+1 || r.Rounds != n+1 || r.Stratum != 0 || r.Done {
			t.Fatalf("round %d: %s %d comes", n, toldRun(r), e)
		}
	}
	wantStep(t, p, r, done(api.Run{Known: r.Known, New: r.Known, Stratum: 1, Rounds: 100}))
	wantAll(t, p, l, told(r.Known))
	passed := begun(chain(100))
	wantSteps(t, p, passed, 0, passed)
	if r, e = Steps(p, passed, 99); e != ok || len(r.Known) != api.MaxFacts {
		t.Errorf("99 of 100 steps: %d Known, %d comes", len(r.Known), e)
	}
	wantStepError(t, p, r, many)
	wantStepsError(t, p, passed, 100, many)
	wantStepsError(t, p, passed, api.MaxSteps, many)
	if got, e := All(p, passed.Known); e != many || len(got) != 0 {
		t.Errorf("All: %d facts, %d comes", len(got), e)
	}
}

// Where few are New in each round, there are never too many lists, though chapter
// 5, which makes all of them over and over, tells ErrMuch.
func TestAllWhereOverAndOverIsTooMuch(t *testing.T) {
	p := parse(t, "x(X) :- at(X), at(Y), at(Z). at(Y) :- at(X), step(X,Y).")
	l := chain(40)
	if _, e := naive.All(p, l); e != much {
		t.Fatalf("over and over: %d comes", e)
	}
	got, e := All(p, l)
	if e != ok || len(got) != len(l)+40+41 || fact.Set(got).Err != ok {
		t.Errorf("%d facts, %d comes", len(got), e)
	}
}

// The most rounds that a run that was begun can have are far from MaxSteps.
func TestAllStrataAndManyRounds(t *testing.T) {
	text := "at(Y) :- at(X), step(X,Y). a1 :- !a0. a2 :- !a1. a3 :- !a2. a4 :- !a3. a5 :- !a4. a6 :- !a5. a7 :- !a6. " +
		"a8 :- !a7. a9 :- !a8. a10 :- !a9. a11 :- !a10. a12 :- !a11. a13 :- !a12. a14 :- !a13. a15 :- !a14."
	p, l := parse(t, text), chain(95)
	r, e := Begin(p, l)
	if e == ok {
		r, e = Steps(p, r, api.MaxSteps)
	}
	if e != ok || !r.Done || r.Stratum != 15 || r.Rounds != 95+15+7 || len(r.Known) != 199 {
		t.Errorf("%s %d comes", toldRun(r), e)
	}
	same, e := naive.All(p, l)
	if e != ok {
		t.Fatal(e)
	}
	wantAll(t, p, l, told(same))
}
