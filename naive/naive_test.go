package naive

import (
	"cmp"
	"fmt"
	"math"
	"slices"
	"strings"
	"testing"

	"corollary/api"
	"corollary/check"
	"corollary/fact"
	"corollary/syntax"
)

const (
	form = api.ErrForm
	much = api.ErrMuch
	many = api.ErrMany
	name = api.ErrName
	fit  = api.ErrFit
	free = api.ErrFree
	loop = api.ErrLoop
)

func variable(s string) api.Term { return api.Term{Var: true, Name: s} }

func named(s string) api.Term { return api.Term{Name: s} }

func atom(s string, terms ...api.Term) api.Atom { return api.Atom{Name: s, Terms: terms} }

func not(a api.Atom) api.Atom {
	a.Not = true
	return a
}

func mk(name string, args ...string) api.Fact { return api.Fact{Name: name, Args: args} }

func parse(t *testing.T, s string) api.Program {
	t.Helper()
	p, f := syntax.Parse(s)
	if f.Err != api.OK {
		t.Fatalf("Parse(%q): %v", s, f)
	}
	return p
}

// list reads facts with blanks between them, as they stand there.
func list(s string) []api.Fact {
	var out []api.Fact
	for _, w := range strings.Fields(s) {
		f, args, some := strings.Cut(strings.TrimSuffix(w, ")"), "(")
		if some {
			out = append(out, mk(f, strings.Split(args, ",")...))
		} else {
			out = append(out, mk(f))
		}
	}
	return out
}

// told writes facts as list reads them; a name without bytes is written as ?, so
// that such a fact is not taken for none.
func told(l []api.Fact) string {
	var out []string
	for _, f := range l {
		s := cmp.Or(f.Name, "?")
		if len(f.Args) > 0 {
			s += "(" + strings.Join(f.Args, ",") + ")"
		}
		out = append(out, s)
	}
	return strings.Join(out, " ")
}

// count has n facts of a name that rise, of one Arg each.
func count(name string, n int) []api.Fact {
	var out []api.Fact
	for i := range n {
		out = append(out, mk(name, fmt.Sprintf("n%04d", i)))
	}
	return out
}

func wantFacts(t *testing.T, p api.Program, l []api.Fact, e api.Errno, at int) {
	t.Helper()
	if got := Facts(p, l); got != (api.Fault{Err: e, At: at}) {
		t.Errorf("Facts(%v, %d facts: %.200q): %v comes, not {%d %d}", p, len(l), l, got, e, at)
	}
}

// want looks at what a call answered: these facts, or this error, and nothing
// beside it (Z4).
func want(t *testing.T, call string, got []api.Fact, e api.Errno, facts string, err api.Errno) {
	t.Helper()
	if told(got) != facts || e != err {
		t.Errorf("%.300s: %.300s %d comes, not %.300s %d", call, told(got), e, facts, err)
	}
}

func wantHeads(t *testing.T, r api.Rule, l []api.Fact, facts string) {
	t.Helper()
	got, e := Heads(r, l)
	want(t, fmt.Sprintf("Heads(%v, %q)", r, l), got, e, facts, api.OK)
}

func wantHeadsError(t *testing.T, r api.Rule, l []api.Fact, err api.Errno) {
	t.Helper()
	got, e := Heads(r, l)
	want(t, fmt.Sprintf("Heads(%v, %q)", r, l), got, e, "", err)
}

func wantOnce(t *testing.T, p api.Program, strata []int, n int, l []api.Fact, facts string) {
	t.Helper()
	got, e := Once(p, strata, n, l)
	want(t, fmt.Sprintf("Once(%v, %d, %d, %q)", p, strata, n, l), got, e, facts, api.OK)
}

func wantOnceError(t *testing.T, p api.Program, strata []int, n int, l []api.Fact, err api.Errno) {
	t.Helper()
	got, e := Once(p, strata, n, l)
	want(t, fmt.Sprintf("Once(%v, %d, %d, %q)", p, strata, n, l), got, e, "", err)
}

func wantAll(t *testing.T, p api.Program, l []api.Fact, facts string) {
	t.Helper()
	got, e := All(p, l)
	want(t, fmt.Sprintf("All(%v, %q)", p, l), got, e, facts, api.OK)
	if f := fact.Set(got); f.Err != api.OK {
		t.Errorf("All(%v, %q): %s comes, and is no set: %v", p, l, told(got), f)
	}
}

func wantAllError(t *testing.T, p api.Program, l []api.Fact, err api.Errno) {
	t.Helper()
	got, e := All(p, l)
	want(t, fmt.Sprintf("All(%v, %q)", p, l), got, e, "", err)
}

func TestFacts(t *testing.T) {
	for _, c := range []struct {
		p, l string
		e    api.Errno
		at   int
	}{
		{"", "", 0, 0},
		{"", "a a(b) a(b,c) b w", 0, 0},
		{"a. b(X) :- c(X,d), !e(X).", "", 0, 0},
		{"a. b(X) :- c(X,d), !e(X).", "a b(x) c(x,d) e(x)", 0, 0},
		{"a. b(X) :- c(X,d), !e(X).", "d x x(y) zz(a,b,c,d)", 0, 0},
		{"a. b(X) :- c(X,d), !e(X).", "a(x)", fit, 0},
		{"a. b(X) :- c(X,d), !e(X).", "b", fit, 0},
		{"a. b(X) :- c(X,d), !e(X).", "b(x,y)", fit, 0},
		{"a. b(X) :- c(X,d), !e(X).", "c", fit, 0},
		{"a. b(X) :- c(X,d), !e(X).", "c(x)", fit, 0},
		{"a. b(X) :- c(X,d), !e(X).", "c(x,y,z)", fit, 0},
		{"a. b(X) :- c(X,d), !e(X).", "e", fit, 0},
		{"a. b(X) :- c(X,d), !e(X).", "e(a,b)", fit, 0},
		{"a. b(X) :- c(X,d), !e(X).", "a a(x) b(x)", fit, 1},
		{"a. b(X) :- c(X,d), !e(X).", "a b(x) c(a,b) d e(x) e(x,y) f", fit, 5},
		{"a. b(X) :- c(X,d), !e(X).", "a b(x) b(a,b) c e", fit, 2},
		{"a. b(X) :- c(X,d), !e(X).", "a b b(x)", fit, 1},
		{"x :- a. x :- b. x :- c(d).", "a b c(x) d(x) x", 0, 0},
		{"x :- a. x :- b. x :- c(d).", "a b c x", fit, 2},
		{"x :- a. x :- b. x :- c(d).", "a b c(x) x(x)", fit, 3},
		{"x :- a, b, c, d, e(f).", "a b c d e e(x)", fit, 4},
	} {
		wantFacts(t, parse(t, c.p), list(c.l), c.e, c.at)
	}
	wantFacts(t, nil, nil, api.OK, 0)
	wantFacts(t, api.Program{}, []api.Fact{}, api.OK, 0)
}

func TestFactsThatAreNoSet(t *testing.T) {
	for _, p := range []api.Program{nil, parse(t, "a(X) :- b(X)."), parse(t, "c :- !c.")} {
		wantFacts(t, p, list("z B"), name, 1)
		wantFacts(t, p, list("d(X)"), name, 0)
		wantFacts(t, p, list("y z z"), form, 2)
		wantFacts(t, p, list("z y"), form, 1)
		wantFacts(t, p, list("y z(a,b,c,d,e)"), many, 1)
		wantFacts(t, p, []api.Fact{{}}, name, 0)
		wantFacts(t, p, count("z", api.MaxFacts), api.OK, 0)
		wantFacts(t, p, count("z", api.MaxFacts+1), many, 0)
		wantFacts(t, p, make([]api.Fact, api.MaxFacts+1), many, 0)
	}
}

// All of what is no set is told ahead of what does not fit, wherever it stands.
func TestNoSetIsToldAheadOfWhatDoesNotFit(t *testing.T) {
	p := parse(t, "a(X) :- b(X).")
	wantFacts(t, p, list("a b(x) c"), fit, 0)
	wantFacts(t, p, list("a b(x) B"), name, 2)
	wantFacts(t, p, list("a b(X) c"), name, 1)
	wantFacts(t, p, list("a b(x) b(x)"), form, 2)
	wantFacts(t, p, list("a b(x,x,x,x,x)"), many, 1)
	wantFacts(t, p, list("b a"), form, 1)
	wantFacts(t, p, append(list("a"), count("b", api.MaxFacts)...), many, 0)
}

// The chapter speaks of programs with which nothing is wrong; of others it is
// taken at its word, too.
func TestFactsOfWrongPrograms(t *testing.T) {
	for _, s := range []string{"a. a(X) :- a.", "a(X). a.", "b :- a, a(x).", "b :- a(x), a.", "a. a(x). a."} {
		for _, l := range []string{"a", "a(x)", "a(x,y)"} {
			wantFacts(t, parse(t, s), list(l), fit, 0)
		}
	}
	wantFacts(t, parse(t, "a(X). b."), list("a(x) b"), api.OK, 0)
	wantFacts(t, parse(t, "a :- !a."), list("a"), api.OK, 0)
	wantFacts(t, make(api.Program, api.MaxRules+1), list("a"), api.OK, 0)
	wantFacts(t, slices.Concat(make(api.Program, api.MaxRules+1), parse(t, "a(x).")), list("a"), fit, 0)
}

func TestHeads(t *testing.T) {
	l := list("e(a,b) e(b,c) e(c,c) v(a) v(c) w")
	for r, want := range map[string]string{
		"x.":                           "x",
		"x(a,b).":                      "x(a,b)",
		"x :- w.":                      "x",
		"x :- e(X,Y).":                 "x",
		"x(a) :- e(X,Y).":              "x(a)",
		"x :- u.":                      "",
		"x(a) :- v(b).":                "",
		"x(X) :- v(X).":                "x(a) x(c)",
		"x(X) :- e(X,Y).":              "x(a) x(b) x(c)",
		"x(Y) :- e(X,Y).":              "x(b) x(c)",
		"x(Y,X) :- e(X,Y).":            "x(b,a) x(c,b) x(c,c)",
		"x(X,X,a,Y) :- e(X,Y), w.":     "x(a,a,a,b) x(b,b,a,c) x(c,c,a,c)",
		"e(X,Z) :- e(X,Y), e(Y,Z).":    "e(a,c) e(b,c) e(c,c)",
		"e(Y,X) :- e(X,Y).":            "e(b,a) e(c,b) e(c,c)",
		"v(X) :- v(X).":                "v(a) v(c)",
		"w :- w.":                      "w",
		"x(X) :- v(X), !e(X,X).":       "x(a)",
		"x(X) :- v(X), !e(X,b), w.":    "x(c)",
		"x(X) :- e(X,Y), !w.":          "",
		"x :- !u.":                     "x",
		"x :- !w.":                     "",
		"x(X) :- v(X), v(Y), !e(X,Y).": "x(a) x(c)",
		"e(X) :- v(X).":                "e(a) e(c)",
		"w(X) :- w(X).":                "",
	} {
		wantHeads(t, parse(t, r)[0], l, want)
	}
	wantHeads(t, parse(t, "x.")[0], nil, "x")
	wantHeads(t, parse(t, "x(X) :- v(X).")[0], nil, "")
}

func TestHeadsThatAreToldNothing(t *testing.T) {
	l := list("e(a,b) v(a) v(c) w")
	for _, r := range []string{"x(X).", "x(Y) :- v(X).", "x(X,Y) :- v(X).", "x(Y,X) :- v(X).", "x(a,b,c,Z) :- e(X,Y).", "x(X) :- w.", "x(X) :- !u."} {
		wantHeads(t, parse(t, r)[0], l, "")
		wantHeads(t, parse(t, r)[0], nil, "")
	}
}

// Nothing is asked of a head: what it is with each list is told, whatever it is.
func TestHeadsThatAreWrong(t *testing.T) {
	body := parse(t, "x :- v(X).")[0].Body
	l := list("v(a) v(c)")
	x, long := variable("X"), strings.Repeat("a", api.MaxName+1)
	for _, c := range []struct {
		head api.Atom
		want string
	}{
		{api.Atom{}, "?"},
		{atom("", x), "?(a) ?(c)"},
		{atom("B", x), "B(a) B(c)"},
		{not(atom("b", x)), "b(a) b(c)"},
		{atom("b", x, x, x, x, x), "b(a,a,a,a,a) b(c,c,c,c,c)"},
		{atom("b", named("X"), x), "b(X,a) b(X,c)"},
		{atom(long, x, named(long)), long + "(a," + long + ") " + long + "(c," + long + ")"},
		{atom("b", variable("x")), ""},
		{atom("b", variable("")), ""},
		{atom("v", x, x), "v(a,a) v(c,c)"},
	} {
		wantHeads(t, api.Rule{Head: c.head, Body: body}, l, c.want)
	}
	wantHeads(t, api.Rule{}, nil, "?")
}

func TestHeadsErrors(t *testing.T) {
	right, wrong := list("q(a)"), list("q(b) q(a)")
	x := variable("X")
	for _, c := range []struct {
		body []api.Atom
		err  api.Errno
	}{
		{make([]api.Atom, api.MaxBody+1), many},
		{[]api.Atom{{}}, name},
		{[]api.Atom{atom("q", x), atom("Q")}, name},
		{[]api.Atom{atom("q", x, x, x, x, x)}, many},
		{[]api.Atom{not(atom("q", x))}, free},
	} {
		for _, head := range []api.Atom{atom("x"), atom("x", variable("Y")), {}, not(atom("X"))} {
			wantHeadsError(t, api.Rule{Head: head, Body: c.body}, right, c.err)
			wantHeadsError(t, api.Rule{Head: head, Body: c.body}, wrong, c.err)
		}
	}
	for _, s := range []string{"x.", "x :- q(X).", "x(X) :- q(X), !u.", "x(Y).", "x :- !q(a)."} {
		wantHeadsError(t, parse(t, s)[0], wrong, form)
		wantHeadsError(t, parse(t, s)[0], list("q(a) q(B)"), name)
		wantHeadsError(t, parse(t, s)[0], list("q(a,b,c,d,e)"), many)
		wantHeadsError(t, parse(t, s)[0], count("q", api.MaxFacts+1), many)
	}
}

func TestHeadsOfTooManyLists(t *testing.T) {
	for _, s := range []string{"x :- q(X), q(Y), q(Z).", "x(A) :- q(X), q(Y), q(Z).", "x(X) :- q(X), q(Y), q(Z), u."} {
		wantHeadsError(t, parse(t, s)[0], count("q", 28), much)
	}
	wantHeads(t, parse(t, "x :- q(X), q(Y), q(Z).")[0], count("q", 27), "x")
	wantHeads(t, parse(t, "q(Y) :- q(X), q(Y), q(Z).")[0], count("q", 27), told(count("q", 27)))
	twenty := append(count("q", 25), count("r", 32)...)
	wantHeads(t, parse(t, "q(X) :- q(X), q(Y), r(Z).")[0], twenty, told(count("q", 25)))
	wantHeadsError(t, parse(t, "q(X) :- q(X), q(Y), r(Z).")[0], append(count("q", 25), count("r", 33)...), much)
}

// Heads may be more than MaxFacts: only Once counts them.
func TestHeadsOfManyFacts(t *testing.T) {
	got, e := Heads(parse(t, "x(X,Y) :- q(X), q(Y).")[0], count("q", 100))
	if e != api.OK || len(got) != 10000 || !slices.IsSortedFunc(got, fact.Compare) {
		t.Errorf("%d facts, %d comes", len(got), e)
	}
	var wanted []api.Fact
	for i := range 100 {
		for j := range 100 {
			wanted = append(wanted, mk("x", fmt.Sprintf("n%04d", i), fmt.Sprintf("n%04d", j)))
		}
	}
	if told(got) != told(wanted) {
		t.Error("these are not all pairs")
	}
}

func TestCount(t *testing.T) {
	for _, c := range []struct {
		strata []int
		want   int
	}{
		{nil, 0}, {[]int{}, 0}, {[]int{0}, 1}, {[]int{1}, 2}, {[]int{0, 3, 1}, 4}, {[]int{3, 0}, 4}, {[]int{0, 3}, 4}, {[]int{0, 0, 0}, 1},
		{[]int{-1}, 0}, {[]int{-5, -3, -4}, -2}, {[]int{math.MinInt}, math.MinInt + 1}, {[]int{math.MaxInt - 1, math.MinInt}, math.MaxInt},
	} {
		if got := Count(c.strata); got != c.want {
			t.Errorf("Count(%d): %d comes, not %d", c.strata, got, c.want)
		}
	}
	Count([]int{math.MaxInt})
	if got := Count(make([]int, 3, 9)[:0]); got != 0 {
		t.Errorf("Count of none, with room behind: %d comes", got)
	}
}

func TestOnce(t *testing.T) {
	p := parse(t, "t(X,Y) :- e(X,Y). t(X,Z) :- t(X,Y), e(Y,Z). n(X) :- v(X), !t(X,X). k.")
	l := list("e(a,b) e(b,c) v(a) w")
	for _, c := range []struct {
		strata []int
		n      int
		want   string
	}{
		{[]int{0, 0, 1, 0}, 0, "e(a,b) e(b,c) k t(a,b) t(b,c) v(a) w"},
		{[]int{0, 0, 1, 0}, 1, "e(a,b) e(b,c) n(a) v(a) w"},
		{[]int{0, 0, 1, 0}, 2, told(l)},
		{[]int{0, 0, 1, 0}, -1, told(l)},
		{[]int{0, 0, 0, 0}, 0, "e(a,b) e(b,c) k n(a) t(a,b) t(b,c) v(a) w"},
		{[]int{5, 6, 7, 5}, 5, "e(a,b) e(b,c) k t(a,b) t(b,c) v(a) w"},
		{[]int{5, 6, 7, 5}, 6, told(l)},
		{[]int{5, 6, 7, 5}, 7, "e(a,b) e(b,c) n(a) v(a) w"},
		{[]int{5, 6, 7, 5}, 0, told(l)},
		{nil, 0, told(l)},
		{[]int{}, 0, told(l)},
		{[]int{0}, 0, "e(a,b) e(b,c) t(a,b) t(b,c) v(a) w"},
		{[]int{1, 0}, 0, told(l)},
		{[]int{1, 1, 0}, 0, "e(a,b) e(b,c) n(a) v(a) w"},
		{[]int{1, 1, 1, 0, 0, 0}, 0, "e(a,b) e(b,c) k v(a) w"},
		{[]int{0, 0, 1, 0, 1, 1}, 1, "e(a,b) e(b,c) n(a) v(a) w"},
		{make([]int, 3, 4), 0, "e(a,b) e(b,c) n(a) t(a,b) t(b,c) v(a) w"},
		{[]int{-1, -1, 0, 0}, -1, "e(a,b) e(b,c) t(a,b) t(b,c) v(a) w"},
		{[]int{math.MaxInt, math.MinInt, 0, 0}, math.MaxInt, "e(a,b) e(b,c) t(a,b) t(b,c) v(a) w"},
	} {
		wantOnce(t, p, c.strata, c.n, l, c.want)
	}
}

// One round alone: nothing follows yet from what the rules ahead made.
func TestOnceIsOneRound(t *testing.T) {
	p := parse(t, "b :- a. c :- b. d :- c. n :- !b.")
	strata := []int{0, 0, 0, 0}
	wantOnce(t, p, strata, 0, list("a"), "a b n")
	wantOnce(t, p, strata, 0, list("a b n"), "a b c n")
	wantOnce(t, p, strata, 0, list("a b c"), "a b c d")
	wantOnce(t, p, strata, 0, list("a b c d"), "a b c d")
	slices.Reverse(p)
	wantOnce(t, p, strata, 0, list("a"), "a b n")
	wantOnce(t, p, strata, 0, nil, "n")
}

func TestOnceOfNothing(t *testing.T) {
	for _, p := range []api.Program{nil, {}} {
		for _, strata := range [][]int{nil, {}, {0}, {0, 1}} {
			for n := -1; n <= 2; n++ {
				wantOnce(t, p, strata, n, nil, "")
				wantOnce(t, p, strata, n, []api.Fact{}, "")
				wantOnce(t, p, strata, n, list("a b(c)"), "a b(c)")
			}
		}
	}
	wantOnce(t, parse(t, "a(x)."), []int{0}, 0, nil, "a(x)")
}

func TestAll(t *testing.T) {
	roads := "way(X,Y) :- road(X,Y). way(X,Z) :- way(X,Y), road(Y,Z). "
	for _, c := range []struct{ p, l, want string }{
		{"", "", ""},
		{"", "a b(x) b(y)", "a b(x) b(y)"},
		{"a.", "", "a"},
		{"a.", "a", "a"},
		{"a(x). b :- a(x).", "", "a(x) b"},
		{"b :- a.", "", ""},
		{"b :- a.", "b", "b"},
		{"a :- a.", "", ""},
		{"a :- b. b :- a.", "", ""},
		{"a :- b. b :- a.", "a", "a b"},
		{"a :- b. b :- a.", "b", "a b"},
		{roads, "road(a,b) road(b,c)", "road(a,b) road(b,c) way(a,b) way(a,c) way(b,c)"},
		{roads, "road(a,b) road(b,a)", "road(a,b) road(b,a) way(a,a) way(a,b) way(b,a) way(b,b)"},
		{roads, "road(a,a)", "road(a,a) way(a,a)"},
		{roads, "road(a,b) way(c,a)", "road(a,b) way(a,b) way(c,a) way(c,b)"},
		{roads, "", ""},
		{roads + "off(X) :- town(X), !way(a,X).", "road(a,b) road(b,c) town(a) town(c) town(d)",
			"off(a) off(d) road(a,b) road(b,c) town(a) town(c) town(d) way(a,b) way(a,c) way(b,c)"},
		{"d :- c. c :- b. b :- a.", "a", "a b c d"},
		{"b :- !a.", "", "b"},
		{"b :- !a.", "a", "a"},
		{"b :- !a.", "a b", "a b"},
		{"b :- !a. a :- c.", "", "b"},
		{"b :- !a. a :- c.", "c", "a c"},
		{"a. b :- !a. c :- !b. d :- !c.", "", "a c"},
		{"d :- !c. c :- !b. b :- !a. a.", "", "a c"},
		{"d :- !c. c :- !b. b :- !a.", "", "b d"},
		{"d :- !c. c :- !b. b :- !a.", "c", "b c"},
		{"c :- b. b :- !a. a :- x.", "", "b c"},
		{"x :- y. y :- z, !a. z :- !b.", "", "x y z"},
		{"odd(X) :- n(X), !even(X). even(X) :- two(Y,X), even(Y). even(z).", "n(1) n(2) n(z) two(2,1) two(z,2)",
			"even(1) even(2) even(z) n(1) n(2) n(z) two(2,1) two(z,2)"},
		{"odd(X) :- n(X), !even(X). even(X) :- two(Y,X), even(Y). even(z).", "n(1) n(2) n(z) two(z,2)",
			"even(2) even(z) n(1) n(2) n(z) odd(1) two(z,2)"},
	} {
		wantAll(t, parse(t, c.p), list(c.l), c.want)
	}
}

// turns calls look with p's rules in each order.
func turns(p api.Program, look func(api.Program)) {
	var walk func(n int)
	walk = func(n int) {
		if n == len(p) {
			look(p)
			return
		}
		for i := n; i < len(p); i++ {
			p[n], p[i] = p[i], p[n]
			walk(n + 1)
			p[n], p[i] = p[i], p[n]
		}
	}
	walk(0)
}

func TestRulesInWhateverOrder(t *testing.T) {
	for _, c := range []struct{ p, l string }{
		{"way(X,Y) :- road(X,Y). way(X,Z) :- way(X,Y), road(Y,Z). off(X) :- town(X), !way(a,X). near(X) :- town(X), !off(X).", "road(a,b) road(b,c) town(a) town(c) town(d)"},
		{"a. b :- a, !c. c :- w. d :- !b. e :- d, !f.", "w"},
		{"b(X) :- a(X). c(X) :- b(X). a(X) :- c(X). c(y) :- !d.", "b(x)"},
		{"d :- !c. c :- !b. b :- !a. e :- d, b.", ""},
	} {
		p, l := parse(t, c.p), list(c.l)
		first, e := All(p, l)
		if e != api.OK || len(first) <= len(l) {
			t.Fatalf("All(%v, %q): %q %d comes", p, l, first, e)
		}
		turns(p, func(p api.Program) { wantAll(t, p, l, told(first)) })
	}
}

// Told more there is no less, where nothing must not be so.
func TestToldMoreThereIsNoLess(t *testing.T) {
	p := parse(t, "t(X,Y) :- e(X,Y). t(X,Z) :- t(X,Y), e(Y,Z). r(X) :- t(X,X). s :- r(X), r(Y), v(X).")
	pool := list("e(a,b) e(b,a) e(b,c) t(c,b) v(a) v(c)")
	some := func(mask int) []api.Fact {
		var out []api.Fact
		for i, f := range pool {
			if mask>>i&1 == 1 {
				out = append(out, f)
			}
		}
		return out
	}
	for mask := range 1 << len(pool) {
		less, e := All(p, some(mask))
		if e != api.OK {
			t.Fatal(e)
		}
		for i := range pool {
			more, e := All(p, some(mask|1<<i))
			if left := fact.Less(less, more); e != api.OK || len(left) > 0 {
				t.Errorf("%s told beside %q: %s is gone, %d", told(pool[i:i+1]), some(mask), told(left), e)
			}
		}
	}
}

func TestAllErrors(t *testing.T) {
	wrongFacts, unfit := list("z y"), list("a(x)")
	for _, c := range []struct {
		p   string
		err api.Errno
	}{
		{"a(X).", free}, {"a :- !b(X).", free}, {"a. a(x).", fit}, {"b. b :- a, a(x).", fit}, {"a :- !a.", loop}, {"a :- b. b :- !a.", loop},
	} {
		for _, l := range [][]api.Fact{nil, list("z"), wrongFacts, unfit, count("z", api.MaxFacts+1)} {
			wantAllError(t, parse(t, c.p), l, c.err)
		}
	}
	wantAllError(t, make(api.Program, api.MaxRules+1), wrongFacts, many)
	wantAllError(t, api.Program{{}}, wrongFacts, name)
	wantAllError(t, api.Program{{Head: not(atom("a"))}}, list("B"), form)
	for _, s := range []string{"", "a.", "c :- a, !b."} {
		wantAllError(t, parse(t, s), wrongFacts, form)
		wantAllError(t, parse(t, s), list("z Z"), name)
		wantAllError(t, parse(t, s), list("z(a,b,c,d,e)"), many)
		wantAllError(t, parse(t, s), count("z", api.MaxFacts+1), many)
	}
	wantAllError(t, parse(t, "a."), unfit, fit)
	wantAllError(t, parse(t, "c :- a, !b."), unfit, fit)
	wantAllError(t, parse(t, "c :- !a."), list("a a(x)"), fit)
	wantAllError(t, parse(t, "c :- !a."), list("a(x) B"), name)
}

func TestStrataAreThoseOfTheProgram(t *testing.T) {
	p := parse(t, "b :- !a. a :- c.")
	strata, f := check.Strata(p)
	if f.Err != api.OK || !slices.Equal(strata, []int{1, 0}) {
		t.Fatalf("Strata: %d %v", strata, f)
	}
	wantOnce(t, p, strata, 0, list("c"), "a c")
	wantOnce(t, p, strata, 1, list("a c"), "a c")
	wantOnce(t, p, strata, 1, list("c"), "b c")
}
