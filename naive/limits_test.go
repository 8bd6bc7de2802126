package naive

import (
	"fmt"
	"testing"

	"corollary/api"
	"corollary/fact"
)

// wantCount asks how many there are alone, and whether they are a set.
func wantCount(t *testing.T, call string, got []api.Fact, e api.Errno, n int) {
	t.Helper()
	if f := fact.Set(got); e != api.OK || len(got) != n || f.Err != api.OK {
		t.Errorf("%s: %d facts, %d comes, not %d facts; as a set: %v", call, len(got), e, n, f)
	}
}

// wantMany looks at both Once, of one stratum, and All: n facts, or ErrMany, if n
// is below 0.
func wantMany(t *testing.T, text string, l []api.Fact, n int) {
	t.Helper()
	p := parse(t, text)
	once, e := Once(p, make([]int, len(p)), 0, l)
	all, err := All(p, l)
	if n < 0 {
		want(t, "Once of "+text, once, e, "", many)
		want(t, "All of "+text, all, err, "", many)
		return
	}
	wantCount(t, "Once of "+text, once, e, n)
	wantCount(t, "All of "+text, all, err, n)
}

func TestManyWereTold(t *testing.T) {
	most, passed := count("q", api.MaxFacts), count("q", api.MaxFacts+1)
	for _, s := range []string{"q(X) :- q(X).", "q(n0000).", "x :- u.", "x(X) :- q(X), u.", "x :- !q(n0199)."} {
		wantMany(t, s, most, api.MaxFacts)
		wantMany(t, s, passed, -1)
	}
	for _, s := range []string{"x.", "x :- q(n0199).", "x :- !u.", "q(a)."} {
		wantMany(t, s, most, -1)
		wantMany(t, s, most[1:], api.MaxFacts)
		wantMany(t, s, passed, -1)
	}
	all, e := All(nil, most)
	wantCount(t, "All of no rules", all, e, api.MaxFacts)
	wantAllError(t, nil, passed, many)
	once, e := Once(nil, nil, 0, most)
	wantCount(t, "Once of no rules", once, e, api.MaxFacts)
}

func TestManyOfOneRule(t *testing.T) {
	half := api.MaxFacts / 2
	wantMany(t, "r(X) :- q(X).", count("q", half), api.MaxFacts)
	wantMany(t, "r(X) :- q(X).", append(count("q", half), mk("z")), -1)
	wantMany(t, "r(X) :- q(X).", count("q", half+1), -1)
	wantMany(t, "q(X) :- q(X), q(X).", count("q", api.MaxFacts), api.MaxFacts)
	wantMany(t, "r(X,Y) :- q(X), q(Y).", count("q", 13), 13+13*13)
	wantMany(t, "r(X,Y) :- q(X), q(Y).", append(count("q", 13), count("z", 18)...), api.MaxFacts)
	wantMany(t, "r(X,Y) :- q(X), q(Y).", append(count("q", 13), count("z", 19)...), -1)
	wantMany(t, "r(X,Y) :- q(X), q(Y).", count("q", 14), -1)
	wantMany(t, "r(X,Y) :- q(X), q(Y), u.", count("q", 14), 14)
}

func TestManyOfSeveralRules(t *testing.T) {
	two := "r(X) :- q(X). s(X) :- q(X). "
	wantMany(t, two, append(count("q", 66), mk("z", "a"), mk("z", "b")), api.MaxFacts)
	wantMany(t, two, append(count("q", 66), mk("z", "a"), mk("z", "b"), mk("z", "c")), -1)
	wantMany(t, two, count("q", 67), -1)
	wantMany(t, two+"t. ", append(count("q", 66), mk("z", "a")), api.MaxFacts)
	wantMany(t, two+"t. ", append(count("q", 66), mk("z", "a"), mk("z", "b")), -1)
	wantMany(t, "t. u. "+two, append(count("q", 66), mk("z", "a")), -1)
}

// What several rules make, or was told, too, counts once.
func TestWhatIsMadeTwiceCountsOnce(t *testing.T) {
	half := api.MaxFacts / 2
	wantMany(t, "r(X) :- q(X). r(X) :- q(X), q(X). r(Y) :- q(X), q(Y).", count("q", half), api.MaxFacts)
	wantMany(t, "r(X) :- q(X). q(X) :- r(X).", append(count("q", half), count("r", half)...), api.MaxFacts)
	wantMany(t, "r(n0000) :- q(X). r(n0001) :- q(X).", append(count("q", half), count("r", half)...), api.MaxFacts)
	wantMany(t, "r(n0000) :- q(X). r(m) :- q(X).", append(count("q", half), count("r", half)...), -1)
}

// chain has n steps, one behind the other, and where they begin.
func chain(n int) []api.Fact {
	out := []api.Fact{mk("at", "n0000")}
	for i := range n {
		out = append(out, mk("step", fmt.Sprintf("n%04d", i), fmt.Sprintf("n%04d", i+1)))
	}
	return out
}

// By one fact a round, too many come only in the last one.
func TestManyComeBehindManyRounds(t *testing.T) {
	p := parse(t, "at(Y) :- at(X), step(X,Y).")
	all, e := All(p, chain(99))
	wantCount(t, "99 steps", all, e, 199)
	all, e = All(p, append(chain(99), mk("z")))
	wantCount(t, "99 steps, and another", all, e, api.MaxFacts)
	wantAllError(t, p, append(chain(99), mk("z"), mk("zz")), many)
	wantAllError(t, p, chain(100), many)
	once, e := Once(p, []int{0}, 0, chain(100))
	wantCount(t, "one of 100 steps", once, e, 102)
}

func TestManyComeOfALaterStratum(t *testing.T) {
	p := parse(t, "s(X) :- q(X), !r(X). r(X) :- q(X), !u(X). u(X) :- q(X), v(X).")
	l := func(n, others int) []api.Fact { return append(count("q", n), count("z", others)...) }
	all, e := All(p, l(100, 0))
	wantCount(t, "100", all, e, api.MaxFacts)
	wantAllError(t, p, l(100, 1), many)
	wantAllError(t, p, l(101, 0), many)
	all, e = All(p, append(l(50, 0), count("v", 50)...))
	wantCount(t, "50 that are u, and so not r, and so s", all, e, api.MaxFacts)
	wantAllError(t, p, append(append(l(50, 0), count("v", 50)...), mk("z")), many)
	wantAllError(t, p, append(l(51, 0), count("v", 51)...), many)
}

// Rule by rule: the first rule's error is told, and of one rule that of its heads
// ahead of there being too many.
func TestWhichErrorIsToldFirst(t *testing.T) {
	few, some := count("q", 28), append(count("q", 28), count("z", 170)...)
	tooMuch, tooMany := "x :- q(X), q(Y), q(Z). ", "r(X) :- q(X). "
	for _, c := range []struct {
		p   string
		l   []api.Fact
		err api.Errno
	}{
		{tooMuch, few, much},
		{tooMuch, some, much},
		{tooMany, some, many},
		{tooMany + tooMuch, few, much},
		{tooMany + tooMuch, some, many},
		{tooMuch + tooMany, some, much},
		{"a. b. c. " + tooMuch, some, many},
		{"a. b. " + tooMuch + "c.", some, much},
		{"a. b. " + tooMuch, some, much},
		{"r(X,Y,Z) :- q(X), q(Y), q(Z).", some, much},
	} {
		p := parse(t, c.p)
		wantOnceError(t, p, make([]int, len(p)), 0, c.l, c.err)
		wantAllError(t, p, c.l, c.err)
	}
}

func TestOnceErrors(t *testing.T) {
	p := parse(t, "a. b(X) :- !c(X). d :- q(X), q(Y), q(Z). e.")
	wantOnceError(t, p, []int{0, 1, 2, 3}, 1, nil, free)
	wantOnceError(t, p, []int{0, 1, 2, 3}, 2, count("q", 28), much)
	wantOnce(t, p, []int{0, 1, 2, 3}, 0, nil, "a")
	wantOnce(t, p, []int{0, 1, 2, 3}, 3, nil, "e")
	wantOnce(t, p, []int{0, 1, 2, 3}, 4, count("q", 28), told(count("q", 28)))
	wantOnceError(t, p, []int{1, 1, 1, 1}, 1, count("q", 28), free)
	wantOnceError(t, p, []int{1, 0, 1, 1}, 1, count("q", 28), much)
	for n := range 4 {
		wantOnceError(t, p[:1], []int{n}, n, list("z y"), form)
		wantOnceError(t, p[:1], []int{n}, n, list("Z"), name)
		wantOnceError(t, p[:1], []int{n}, n, count("z", api.MaxFacts+1), many)
	}
}

// A stratum's error is told behind all of those below it, wherever its rules stand.
func TestErrorsStratumByStratum(t *testing.T) {
	tooMuch, tooMany := "x :- q(X), q(Y), q(Z), !low(X). ", "low(X) :- q(X). "
	some := append(count("q", 28), count("z", 170)...)
	for _, s := range []string{tooMuch + tooMany, tooMany + tooMuch} {
		wantAllError(t, parse(t, s), some, many)
		wantAllError(t, parse(t, s), count("q", 28), much)
	}
}

// An error that comes only when more has followed is told all the same.
func TestErrorsOfLaterRounds(t *testing.T) {
	p := parse(t, "x :- at(X), at(Y), at(Z). at(Y) :- at(X), step(X,Y).")
	wantAllError(t, p, chain(27), much)
	all, e := All(p, chain(26))
	wantCount(t, "26 steps", all, e, 1+26+26+1)
	wantOnce(t, p, []int{0, 0}, 0, chain(1), "at(n0000) at(n0001) step(n0000,n0001) x")
}

// The last round of a stratum brings nothing: what comes in the end is what was
// there, even where there is no room for more.
func TestNothingMoreComes(t *testing.T) {
	p := parse(t, "r(X) :- q(X). q(X) :- r(X). t(X) :- q(X), !r(X).")
	l := append(count("q", 100), count("r", 100)...)
	all, e := All(p, l)
	wantCount(t, "all was told", all, e, api.MaxFacts)
	if told(all) != told(l) {
		t.Errorf("%s comes", told(all))
	}
}
