package proof

import (
	"fmt"
	"testing"

	"corollary/api"
	"corollary/naive"
)

// heap is a proof of z, of n proofs in all, as flat as may be: by z :- z. z :- z, z.
func heap(n int) api.Proof {
	x := why("z")
	if n == 1 {
		return x
	}
	if n == 2 {
		return api.Proof{Fact: x.Fact, Rule: 0, Kids: []api.Proof{x}}
	}
	return api.Proof{Fact: x.Fact, Rule: 1, Kids: []api.Proof{heap((n - 1) / 2), heap(n / 2)}}
}

// stair is a proof of z that is so deep, of n in all: the one above on each step,
// and at most one beside it, which has more under it.
func stair(depth, n int) api.Proof {
	x := tower("z", depth)
	for at := &x; n > depth; at = &at.Kids[0] {
		more := min(n-depth, 31)
		at.Rule, at.Kids = 1, append(at.Kids, heap(more))
		n -= more
	}
	return x
}

func TestCheckMuch(t *testing.T) {
	p, l := parse(t, "z :- z. z :- z, z."), list("z")
	for _, n := range []int{1, 2, 3, 60, 61, api.MaxProof - 1, api.MaxProof} {
		wantCheck(t, p, l, heap(n), ok)
		wantCheck(t, p, nil, heap(n), none)
	}
	for _, n := range []int{api.MaxProof + 1, api.MaxProof + 2, 10000} {
		wantCheck(t, p, l, heap(n), much)
		wantCheck(t, p, nil, heap(n), much)
	}
	for _, n := range []int{1, 2, api.MaxDeep - 1, api.MaxDeep} {
		wantCheck(t, p, l, tower("z", n), ok)
		wantCheck(t, p, nil, tower("z", n), none)
	}
	for _, n := range []int{api.MaxDeep + 1, api.MaxDeep + 2, api.MaxProof, api.MaxProof + 1, 1 << 16} {
		wantCheck(t, p, l, tower("z", n), much)
		wantCheck(t, p, nil, tower("z", n), much)
	}
}

// Both at once: as many as may be, as deep as may be.
func TestCheckMuchAndDeep(t *testing.T) {
	p, l := parse(t, "z :- z. z :- z, z."), list("z")
	for _, c := range []struct {
		depth, n int
		err      api.Errno
	}{
		{api.MaxDeep, api.MaxProof, ok},
		{api.MaxDeep, api.MaxProof + 1, much},
		{api.MaxDeep + 1, api.MaxProof, much},
		{api.MaxDeep + 1, api.MaxDeep + 1, much},
		{api.MaxDeep - 1, api.MaxProof, ok},
	} {
		x := stair(c.depth, c.n)
		wantSize(t, x, c.n, c.depth)
		wantCheck(t, p, l, x, c.err)
	}
}

// Whatever is wrong with a proof, if it is too much, that is told; All's error is
// told ahead of it.
func TestMuchIsToldFirst(t *testing.T) {
	p, l := parse(t, "z :- z. z :- z, z."), list("z")
	for _, rule := range []int{-2, -1, 0, 1, 2, 99} {
		for _, x := range []api.Proof{heap(api.MaxProof + 1), tower("z", api.MaxDeep+1), {Kids: make([]api.Proof, api.MaxProof)}} {
			x.Rule = rule
			wantCheck(t, p, l, x, much)
			wantCheck(t, parse(t, "z :- !z."), l, x, loop)
			wantCheck(t, p, list("z y"), x, form)
		}
	}
	few := api.Proof{Kids: make([]api.Proof, api.MaxProof-1)}
	wantCheck(t, p, l, few, fit)
	wantCheck(t, nil, l, few, kind)
}

// What is shared by many counts as often as it stands there; it would take too long
// to look at all of it.
func TestCheckMuchOfWhatIsShared(t *testing.T) {
	p, x := parse(t, "z :- z, z."), why("z")
	for n := range 100 {
		x = api.Proof{Fact: x.Fact, Kids: []api.Proof{x, x}}
		want := ok
		if n >= 7 {
			want = much
		}
		wantCheck(t, p, list("z"), x, want)
	}
}

// chain has n steps, one behind the other, and where they begin.
func chain(n int) []api.Fact {
	out := []api.Fact{mk("at", "n0000")}
	for i := range n {
		out = append(out, mk("step", fmt.Sprintf("n%04d", i), fmt.Sprintf("n%04d", i+1)))
	}
	return out
}

func place(n int) api.Fact { return mk("at", fmt.Sprintf("n%04d", n)) }

// wantProved: it is of that size, and nothing is wrong with it.
func wantProved(t *testing.T, p api.Program, l []api.Fact, f api.Fact, count, depth int) {
	t.Helper()
	x, e := Prove(p, l, f)
	if e != ok {
		t.Errorf("%s: %d comes", toldFact(f), e)
	}
	wantSize(t, x, count, depth)
	wantCheck(t, p, l, x, ok)
}

func TestProveDeep(t *testing.T) {
	p, l := parse(t, "at(Y) :- at(X), step(X,Y)."), chain(99)
	for _, n := range []int{0, 1, 2, api.MaxDeep - 2, api.MaxDeep - 1} {
		wantProved(t, p, l, place(n), 2*n+1, n+1)
	}
	for _, n := range []int{api.MaxDeep, api.MaxDeep + 1, 99} {
		wantNoProof(t, p, l, place(n), much)
	}
	wantNoProof(t, p, l, place(100), none)
	back := parse(t, "at(Y) :- step(X,Y), at(X).")
	wantProved(t, back, l, place(api.MaxDeep-1), 2*api.MaxDeep-1, api.MaxDeep)
	wantNoProof(t, back, l, place(api.MaxDeep), much)
}

// Where Kids are as deep as they may be only behind others that are flat.
func TestProveDeepBehindOthers(t *testing.T) {
	p := parse(t, "at(Y) :- at(X), step(X,Y). end :- at(n0000), at(n0058), at(n0001). far :- at(n0000), at(n0059). off :- end, far.")
	l := chain(70)
	wantProved(t, p, l, mk("end"), 1+1+117+3, api.MaxDeep)
	wantNoProof(t, p, l, mk("far"), much)
	wantNoProof(t, p, l, mk("off"), much)
}

// Sizes: a 1, b 6, c 31, d 156, x 25, y 26; e, with one of these, 400 or 401.
const sizesText = "b :- a, a, a, a, a. c :- b, b, b, b, b. d :- c, c, c, c, c. x :- b, b, b, b. y :- b, b, b, b, a. "

func TestProveMany(t *testing.T) {
	for _, kids := range []string{"d, d, c, c, x", "x, c, c, d, d", "c, d, x, d, c"} {
		p := parse(t, sizesText+"e :- "+kids+".")
		wantProved(t, p, list("a"), mk("d"), 156, 4)
		wantProved(t, p, list("a"), mk("y"), 26, 3)
		wantProved(t, p, list("a"), mk("e"), api.MaxProof, 5)
	}
	for _, kids := range []string{"d, d, c, c, y", "y, c, c, d, d", "d, d, d", "d, d, d, d, d"} {
		p := parse(t, sizesText+"e :- "+kids+". f :- e.")
		wantProved(t, p, list("a"), mk("d"), 156, 4)
		wantNoProof(t, p, list("a"), mk("e"), much)
		wantNoProof(t, p, list("a"), mk("f"), much)
	}
	p := parse(t, sizesText+"e :- d, d, c, c, x. f :- e.")
	wantNoProof(t, p, list("a"), mk("f"), much)
}

// As many as may be, as deep as may be: 58 steps are 117 proofs, 59 deep; g is 100.
func TestProveManyAndDeep(t *testing.T) {
	text := sizesText + "g :- c, c, c, b. at(Y) :- at(X), step(X,Y). e :- at(n0058), d, g"
	l := append([]api.Fact{mk("a")}, chain(59)...)
	wantProved(t, parse(t, text+", x."), l, mk("e"), api.MaxProof-1, api.MaxDeep)
	wantProved(t, parse(t, text+", y."), l, mk("e"), api.MaxProof, api.MaxDeep)
	wantNoProof(t, parse(t, text+", y, a."), l, mk("e"), much)
	wantNoProof(t, parse(t, text+", at(n0059)."), l, mk("e"), much)
}

// There may be far more proofs in one than could ever be counted.
func TestProveFarTooMany(t *testing.T) {
	double := parse(t, "at(Y) :- at(X), step(X,Y), at(X).")
	l := chain(90)
	for _, n := range []int{0, 1, 2, 6, 7} {
		wantProved(t, double, l, place(n), 3<<n-2, n+1)
	}
	for _, n := range []int{8, 9, 59, 60, 90} {
		wantNoProof(t, double, l, place(n), much)
	}
	text := ""
	for n := range 16 {
		text += fmt.Sprintf("a%d :- a%d, a%d, a%d, a%d, a%d. ", n+1, n, n, n, n, n)
	}
	p := parse(t, text)
	wantProved(t, p, list("a0"), mk("a3"), 156, 4)
	for n := 4; n <= 16; n++ {
		wantNoProof(t, p, list("a0"), mk(fmt.Sprint("a", n)), much)
	}
}

// All's errors for too many facts, or lists, in each stratum, behind any number of
// rounds.
func TestTooMuchFollows(t *testing.T) {
	half := api.MaxFacts / 2
	wantRefused(t, parse(t, "r(X) :- q(X)."), count("q", half+1), many)
	wantProved(t, parse(t, "r(X) :- q(X)."), count("q", half), mk("r", "n0099"), 2, 2)
	wantRefused(t, parse(t, "r(X) :- q(X), !s."), count("q", half+1), many)
	wantRefused(t, parse(t, "r(X) :- q(X), !s. s :- t."), count("q", half+1), many)
	wantRefused(t, parse(t, "at(Y) :- at(X), step(X,Y)."), chain(100), many)
	wantRefused(t, parse(t, "s :- q(X), q(Y), q(Z)."), count("q", 28), much)
	wantProved(t, parse(t, "s :- q(X), q(Y), q(Z)."), count("q", 27), mk("s"), 4, 2)
	wantRefused(t, parse(t, "s :- q(X), q(Y), q(Z), !u. u :- t."), count("q", 28), much)
	wantRefused(t, parse(t, "x(X) :- at(X), at(Y), at(Z). at(Y) :- at(X), step(X,Y)."), chain(40), much)
	wantRefused(t, parse(t, "r(X) :- q(X). s :- q(X), q(Y), q(Z)."), count("q", half+1), many)
	wantRefused(t, parse(t, "s :- q(X), q(Y), q(Z). r(X) :- q(X)."), count("q", half+1), much)
}

// MaxFacts of them, in as many strata and rounds as may be, each of them proved.
func TestProveInAllStrata(t *testing.T) {
	text := "at(Y) :- at(X), step(X,Y). a1 :- !a0. a2 :- !a1. a3 :- !a2. a4 :- !a3. a5 :- !a4. a6 :- !a5. a7 :- !a6. " +
		"a8 :- !a7. a9 :- !a8. a10 :- !a9. a11 :- !a10. a12 :- !a11. a13 :- !a12. a14 :- !a13, at(n0058), a1. a15 :- a13, at(X), !a14."
	p, l := parse(t, text), append(chain(95), mk("z"))
	all, e := naive.All(p, l)
	if e != ok || len(all) != api.MaxFacts {
		t.Fatalf("%d %d follows", len(all), e)
	}
	wantProved(t, p, l, mk("a13"), 1, 1)
	wantProof(t, p, l, mk("a15"), "a15:15[a13:13 at(n0000)]")
	wantNoProof(t, p, l, mk("a14"), none)
	wantNoProof(t, p, l, mk("a12"), none)
}

// A rule's lists may be as many as may be, of which the last one alone is of facts
// that are less old.
func TestProveByTheLastOfManyLists(t *testing.T) {
	p := parse(t, "s :- q(X), q(Y), q(Z). q(X) :- r(X).")
	l := append([]api.Fact{mk("q", "z")}, count("r", 26)...)
	wantProof(t, p, l, mk("s"), "s:0[q(z) q(z) q(z)]")
	wantProof(t, p, l, mk("q", "n0025"), "q(n0025):1[r(n0025)]")
}
