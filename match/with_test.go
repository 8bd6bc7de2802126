package match

import (
	"cmp"
	"fmt"
	"math"
	"slices"
	"strings"
	"testing"

	"corollary/api"
	"corollary/fact"
)

// told writes lists as X=a,Y=b with blanks between; - has no variables.
func told(lists [][]api.Bind) string {
	var out []string
	for _, l := range lists {
		var parts []string
		for _, b := range l {
			parts = append(parts, b.Var+"="+b.Name)
		}
		out = append(out, cmp.Or(strings.Join(parts, ","), "-"))
	}
	return strings.Join(out, " ")
}

func wantWith(t *testing.T, body []api.Atom, facts []api.Fact, at int, other []api.Fact, want string) {
	t.Helper()
	if got, e := With(body, facts, at, other); e != api.OK || told(got) != want {
		t.Errorf("With(%v, %q, %d, %q): %s %d comes, not %s", body, facts, at, other, told(got), e, want)
	}
}

func wantAll(t *testing.T, body []api.Atom, facts []api.Fact, want string) {
	t.Helper()
	if got, e := All(body, facts); e != api.OK || told(got) != want {
		t.Errorf("All(%v, %q): %s %d comes, not %s", body, facts, told(got), e, want)
	}
}

func wantError(t *testing.T, body []api.Atom, facts []api.Fact, at int, other []api.Fact, want api.Errno) {
	t.Helper()
	if got, e := With(body, facts, at, other); e != want || len(got) != 0 {
		t.Errorf("With(%v, %d facts, %d, %d others): %d lists, %d comes, not %d", body, len(facts), at, len(other), len(got), e, want)
	}
}

// count has n facts of a name that rise, of one Arg each.
func count(name string, n int) []api.Fact {
	var out []api.Fact
	for i := range n {
		out = append(out, mk(name, fmt.Sprintf("n%04d", i)))
	}
	return out
}

var (
	edges = fact.Of([]api.Fact{mk("e", "a", "b"), mk("e", "b", "c"), mk("e", "c", "a"), mk("e", "a", "a"), mk("q", "a"), mk("q", "b"), mk("s"), mk("e", "d")})
	few   = []api.Fact{mk("e", "a", "b"), mk("q", "c")}
)

func TestAll(t *testing.T) {
	for body, want := range map[string]string{
		"e(X,Y)":                 "X=a,Y=a X=a,Y=b X=b,Y=c X=c,Y=a",
		"e(X,X)":                 "X=a",
		"e(X)":                   "X=d",
		"e(a,X)":                 "X=a X=b",
		"e(X,b), e(b,Y)":         "X=a,Y=c",
		"e(a,b)":                 "-",
		"e(b,a)":                 "",
		"s":                      "-",
		"s, s, s":                "-",
		"t":                      "",
		"s(X)":                   "",
		"q":                      "",
		"e(X,Y), e(Y,X)":         "X=a,Y=a",
		"e(X,Y), e(Y,Z), e(Z,X)": "X=a,Y=a,Z=a X=a,Y=b,Z=c X=b,Y=c,Z=a X=c,Y=a,Z=b",
		"q(X), q(Y)":             "X=a,Y=a X=a,Y=b X=b,Y=a X=b,Y=b",
		"q(X), q(X)":             "X=a X=b",
		"e(X,Y), !q(Y)":          "X=b,Y=c",
		"!q(Y), e(X,Y)":          "X=b,Y=c",
		"e(X,Y), !q(X), !q(Y)":   "",
		"q(X), !e(X,X)":          "X=b",
		"q(X), !e(X)":            "X=a X=b",
		"q(X), !e(a,c)":          "X=a X=b",
		"q(X), !s":               "",
		"q(X), !t, !s(X)":        "X=a X=b",
		"q(X), t":                "",
		"t, q(X)":                "",
	} {
		wantAll(t, parse(t, body), edges, want)
	}
	wantAll(t, parse(t, "e(X,Y), e(Y,X)"), []api.Fact{mk("e", "a", "b"), mk("e", "b", "a")}, "X=a,Y=b X=b,Y=a")
}

func TestBodiesWithNothingInThem(t *testing.T) {
	for _, body := range [][]api.Atom{nil, {}, make([]api.Atom, 0, 3)} {
		for at := -2; at <= 2; at++ {
			wantWith(t, body, edges, at, few, "-")
			wantWith(t, body, nil, at, []api.Fact{}, "-")
			wantWith(t, body, []api.Fact{}, at, nil, "-")
		}
		wantAll(t, body, edges, "-")
		wantAll(t, body, nil, "-")
	}
}

func TestBodiesThatAreOnlyNot(t *testing.T) {
	for _, c := range []struct{ body, want string }{
		{"!s", ""}, {"!t", "-"}, {"!s, !t", ""}, {"!t, !s", ""}, {"!t, !u", "-"},
		{"!e(a,b)", ""}, {"!e(b,a)", "-"}, {"!e(a)", "-"}, {"!t, !t, !t, !t, !t", "-"}, {"!t, !t, !t, !t, !s", ""},
	} {
		wantAll(t, parse(t, c.body), edges, c.want)
		wantAll(t, parse(t, c.body), nil, "-")
	}
	wantError(t, parse(t, "!q(X)"), edges, 0, nil, api.ErrFree)
	wantError(t, parse(t, "!t, !q(X)"), nil, -1, nil, api.ErrFree)
}

func TestNoFacts(t *testing.T) {
	for _, none := range [][]api.Fact{nil, {}, make([]api.Fact, 0, 2)} {
		wantAll(t, parse(t, "s"), none, "")
		wantAll(t, parse(t, "q(X), !s"), none, "")
		wantAll(t, parse(t, "!s"), none, "-")
		wantWith(t, parse(t, "q(X)"), none, 0, few, "X=c")
		wantWith(t, parse(t, "q(X)"), few, 0, none, "")
		wantWith(t, parse(t, "q(X), !q(X)"), few, 1, none, "X=c")
	}
}

func TestNumberAt(t *testing.T) {
	for _, c := range []struct {
		body string
		at   int
		want string
	}{
		{"e(X,Y)", 0, "X=a,Y=b"},
		{"e(X,Y), e(Y,Z)", 0, "X=a,Y=b,Z=c"},
		{"e(X,Y), e(Y,Z)", 1, "X=a,Y=a,Z=b X=c,Y=a,Z=b"},
		{"q(X), q(X)", 0, ""},
		{"q(X), q(Y)", 1, "X=a,Y=c X=b,Y=c"},
		{"s, q(X)", 0, ""},
		{"s, q(X)", 1, "X=c"},
		{"e(X,Y), !q(Y)", 0, ""},
		{"e(X,Y), !q(Y)", 1, "X=a,Y=a X=a,Y=b X=c,Y=a"},
		{"!q(Y), e(X,Y)", 0, "X=a,Y=a X=a,Y=b X=c,Y=a"},
		{"!q(Y), e(X,Y)", 1, ""},
		{"!t, q(X)", 0, "X=a X=b"},
		{"!t, q(X)", 1, "X=c"},
		{"!s", 0, "-"},
		{"!q(c)", 0, ""},
		{"!s, !s", 0, ""},
		{"q(X), !q(X), !e(X,X)", 1, "X=b"},
		{"q(X), !q(X), !e(X,X)", 2, ""},
		{"q(X), !t, e(X,Y)", 2, "X=a,Y=b"},
		{"q(X), !t, !t, !t, e(X,Y)", 4, "X=a,Y=b"},
	} {
		wantWith(t, parse(t, c.body), edges, c.at, few, c.want)
	}
}

func TestNumberAtThatIsNone(t *testing.T) {
	for _, s := range []string{"", "e(X,Y)", "e(X,Y), !q(Y)", "!q(X), q(Y), e(X,Y)", "!s", "!t", "q(X), q(X), q(X), q(X), q(X)"} {
		body := parse(t, s)
		want, _ := All(body, edges)
		for _, at := range []int{math.MinInt, -len(body), -len(body) - 1, -2, -1, len(body), len(body) + 1, api.MaxBody, math.MaxInt} {
			if at < 0 || at >= len(body) {
				wantWith(t, body, edges, at, few, told(want))
				wantWith(t, body, edges, at, nil, told(want))
			}
		}
		for at := range body {
			wantWith(t, body, edges, at, edges, told(want))
		}
	}
}

func TestMaxBodyAtoms(t *testing.T) {
	chain := []api.Fact{mk("e", "1", "2"), mk("e", "2", "3"), mk("e", "3", "4"), mk("e", "4", "5"), mk("e", "5", "6")}
	body := parse(t, "e(A,B), e(B,C), e(C,D), e(D,E), e(E,F)")
	wantAll(t, body, chain, "A=1,B=2,C=3,D=4,E=5,F=6")
	slices.Reverse(body)
	wantAll(t, body, chain, "A=1,B=2,C=3,D=4,E=5,F=6")
	for at := range body {
		wantWith(t, body, chain, at, chain[4-at:5-at], "A=1,B=2,C=3,D=4,E=5,F=6")
		wantWith(t, body, chain, at, nil, "")
	}
	wantAll(t, parse(t, "!e(A,A), e(A,B), !e(B,A), e(B,C), !e(A,C)"), chain, "A=1,B=2,C=3 A=2,B=3,C=4 A=3,B=4,C=5 A=4,B=5,C=6")
	wantError(t, append(body, body[0]), chain, 0, chain, api.ErrMany)
}

func TestAtomsOfMaxArgs(t *testing.T) {
	facts := []api.Fact{mk("a", "1", "2", "3", "4"), mk("b", "5", "6", "7", "8"), mk("c", "9", "10", "11", "12"), mk("d", "13", "14", "15", "16"), mk("e", "17", "18", "19", "20")}
	body := parse(t, "a(A1,A2,A3,A4), b(B1,B2,B3,B4), c(C1,C2,C3,C4), d(D1,D2,D3,D4), e(E1,E2,E3,E4)")
	want := "A1=1,A2=2,A3=3,A4=4,B1=5,B2=6,B3=7,B4=8,C1=9,C2=10,C3=11,C4=12,D1=13,D2=14,D3=15,D4=16,E1=17,E2=18,E3=19,E4=20"
	wantAll(t, body, facts, want)
	slices.Reverse(body)
	wantAll(t, body, facts, want)
}

func TestListsRise(t *testing.T) {
	facts := []api.Fact{mk("p", "10"), mk("p", "9"), mk("p", "a"), mk("p", "a1"), mk("p", "aA"), mk("p", "a_"), mk("p", "aa"), mk("p", "b")}
	wantAll(t, parse(t, "p(X)"), facts, "X=10 X=9 X=a X=a1 X=aA X=a_ X=aa X=b")
	pairs := []api.Fact{mk("p", "a", "2"), mk("p", "b", "1"), mk("p", "c", "0"), mk("p", "c", "3")}
	wantAll(t, parse(t, "p(Y,X)"), pairs, "X=0,Y=c X=1,Y=b X=2,Y=a X=3,Y=c")
	wantAll(t, parse(t, "p(X,Y)"), pairs, "X=a,Y=2 X=b,Y=1 X=c,Y=0 X=c,Y=3")
	wantAll(t, parse(t, "p(b,A_), p(b,Aa), p(b,AB), p(b,A1), p(b,A)"), pairs, "A=1,A1=1,AB=1,A_=1,Aa=1")
	wantAll(t, parse(t, "q(Y), p(Y,X), q(W)"), append(slices.Clone(pairs), mk("q", "a"), mk("q", "c")),
		"W=a,X=0,Y=c W=a,X=2,Y=a W=a,X=3,Y=c W=c,X=0,Y=c W=c,X=2,Y=a W=c,X=3,Y=c")
}

type bodyRow struct {
	body []api.Atom
	err  api.Errno
}

func wrongBodies() []bodyRow {
	x, a := variable("X"), named("a")
	q := atom("q", x)
	wide := atom("q", a, a, a, a, a)
	return []bodyRow{
		{[]api.Atom{q}, api.OK},
		{[]api.Atom{q, q, q, q, q, q}, api.ErrMany},
		{make([]api.Atom, api.MaxBody+1), api.ErrMany},
		{[]api.Atom{q, atom("A")}, api.ErrName},
		{[]api.Atom{q, wide}, api.ErrMany},
		{[]api.Atom{atom("q", named("X"))}, api.ErrName},
		{[]api.Atom{atom("q", variable("x"))}, api.ErrName},
		{[]api.Atom{q, not(atom("q", variable("Y")))}, api.ErrFree},
		{[]api.Atom{not(q), not(atom("B"))}, api.ErrName},
		{[]api.Atom{not(q), wide}, api.ErrMany},
	}
}

type setRow struct {
	set []api.Fact
	err api.Errno
}

func wrongSets() []setRow {
	return []setRow{
		{few, api.OK},
		{count("q", api.MaxFacts+1), api.ErrMany},
		{make([]api.Fact, api.MaxFacts+1), api.ErrMany},
		{[]api.Fact{{}}, api.ErrName},
		{[]api.Fact{mk("a"), mk("a", "X")}, api.ErrName},
		{[]api.Fact{mk("a"), mk("b", "1", "2", "3", "4", "5")}, api.ErrMany},
		{[]api.Fact{mk("b"), mk("a")}, api.ErrForm},
		{[]api.Fact{mk("a"), mk("a")}, api.ErrForm},
		{[]api.Fact{mk("b"), mk("a"), mk("A")}, api.ErrForm},
		{[]api.Fact{mk("b"), mk("A")}, api.ErrName},
		{[]api.Fact{{Name: "a"}, {Name: "a", Args: []string{}}}, api.ErrForm},
	}
}

func TestErrorsAndWhichIsTold(t *testing.T) {
	for _, b := range wrongBodies() {
		for _, facts := range wrongSets() {
			for _, other := range wrongSets() {
				want := cmp.Or(b.err, facts.err, other.err)
				for at := -1; at <= api.MaxBody+1 && want != api.OK; at++ {
					wantError(t, b.body, facts.set, at, other.set, want)
				}
			}
			want := cmp.Or(b.err, facts.err)
			if l, e := All(b.body, facts.set); e != want || (e != api.OK) != (len(l) == 0) {
				t.Errorf("All(%v, %d facts): %d lists, %d comes, not %d", b.body, len(facts.set), len(l), e, want)
			}
		}
	}
}

// MaxFacts is less than MaxBinds: behind one atom alone there never are too many.
func TestMaxFactsBehindTheFirstAtom(t *testing.T) {
	l, e := All(parse(t, "q(X)"), count("q", api.MaxFacts))
	if len(l) != api.MaxFacts || e != api.OK {
		t.Errorf("%d lists, %d come", len(l), e)
	}
	l, e = With(parse(t, "q(X)"), nil, 0, count("q", api.MaxFacts))
	if len(l) != api.MaxFacts || e != api.OK {
		t.Errorf("%d lists, %d come of others", len(l), e)
	}
}

// counts has n facts of a, b and so on, as a set.
func counts(each ...int) []api.Fact {
	var out []api.Fact
	for i, n := range each {
		out = append(out, count(string(rune('a'+i)), n)...)
	}
	return out
}

func wantMany(t *testing.T, body []api.Atom, facts []api.Fact, at int, other []api.Fact, want int) {
	t.Helper()
	l, e := With(body, facts, at, other)
	if len(l) != want || e != api.OK {
		t.Errorf("With(%v, %d facts, %d, %d others): %d lists, %d come, not %d lists", body, len(facts), at, len(other), len(l), e, want)
	}
	for i := 1; i < len(l); i++ {
		if slices.CompareFunc(l[i-1], l[i], compare) >= 0 {
			t.Fatalf("%q comes behind %q", l[i], l[i-1])
		}
	}
}

func TestMaxBindsBehindTheSecondAtom(t *testing.T) {
	q := func(n int) []api.Fact { return count("q", n) }
	body := parse(t, "q(X), q(Y)")
	wantMany(t, body, q(200), 1, q(100), api.MaxBinds)
	wantMany(t, body, q(100), 0, q(200), api.MaxBinds)
	wantError(t, body, q(177), 1, q(113), api.ErrMuch) // MaxBinds, and 1
	wantError(t, body, q(177), 0, q(113), api.ErrMuch)
	wantMany(t, body, q(141), -1, nil, 141*141)
	wantError(t, body, q(142), -1, nil, api.ErrMuch)
	wantError(t, body, q(200), -1, nil, api.ErrMuch)
	wantMany(t, body, q(200), 1, q(1), 200)
	wantMany(t, body, q(200), 1, nil, 0)
}

func TestMaxBindsBehindLaterAtoms(t *testing.T) {
	three, four, five := "a(X), b(Y), c(Z)", "a(X), b(Y), c(Z), d(W)", "a(X), b(Y), c(Z), d(W), e(V)"
	wantMany(t, parse(t, three), counts(20, 25, 40), -1, nil, api.MaxBinds)
	wantMany(t, parse(t, four), counts(10, 8, 10, 25), -1, nil, api.MaxBinds)
	wantMany(t, parse(t, five), counts(10, 2, 8, 5, 25), -1, nil, api.MaxBinds)
	wantError(t, parse(t, three), counts(3, 59, 113), -1, nil, api.ErrMuch) // MaxBinds, and 1
	wantError(t, parse(t, three), counts(113, 59, 3), -1, nil, api.ErrMuch)
	wantError(t, parse(t, four), counts(1, 3, 59, 113), -1, nil, api.ErrMuch)
	wantError(t, parse(t, five), counts(1, 113, 3, 1, 59), -1, nil, api.ErrMuch)
	wantError(t, parse(t, five), counts(40, 40, 40, 40, 40), -1, nil, api.ErrMuch)
	wantError(t, parse(t, "a(X), a(Y), a(Z), a(W), a(V)"), counts(200), -1, nil, api.ErrMuch)
}

// What comes behind an atom counts, even if it is gone in the end; what never
// comes does not.
func TestMaxBindsAtomByAtom(t *testing.T) {
	much := counts(3, 59, 113)
	wantError(t, parse(t, "a(X), b(Y), c(Z), t"), much, -1, nil, api.ErrMuch)
	wantError(t, parse(t, "a(X), b(Y), c(Z), a(Z)"), much, 3, nil, api.ErrMuch)
	wantError(t, parse(t, "a(X), b(Y), c(Z), !a(X)"), much, -1, nil, api.ErrMuch)
	wantError(t, parse(t, "!a(X), a(X), b(Y), c(Z)"), much, -1, nil, api.ErrMuch)
	wantMany(t, parse(t, "t, a(X), b(Y), c(Z)"), much, -1, nil, 0)
	wantMany(t, parse(t, "a(X), b(Y), t, c(Z)"), much, -1, nil, 0)
	wantMany(t, parse(t, "a(X), b(Y), c(Z)"), much, 2, nil, 0)
	q := count("q", api.MaxFacts)
	wantMany(t, parse(t, "q(X), q(X), q(X), q(X), q(X)"), q, -1, nil, api.MaxFacts)
	wantMany(t, parse(t, "q(X), q(Y), q(X), q(Y), q(X)"), q, 1, q[:100], api.MaxBinds)
	wantMany(t, parse(t, "q(X), q(Y), q(Y), t"), q, 1, q[:100], 0)
	wantMany(t, parse(t, "q(X), q(Y), !q(Y)"), q, 1, q[:100], 0)
	wantMany(t, parse(t, "q(X), q(Y), !q(Y)"), q[:141], 2, q[:140], 141)
}

func TestErrorsAheadOfErrMuch(t *testing.T) {
	q, b := count("q", api.MaxFacts), parse(t, "q(X), q(Y)")
	for at := -1; at <= 2; at++ {
		wantError(t, b, q, at, []api.Fact{mk("b"), mk("a")}, api.ErrForm)
		wantError(t, b, q, at, []api.Fact{mk("A")}, api.ErrName)
		wantError(t, b, append(count("q", api.MaxFacts), mk("r")), at, q, api.ErrMany)
		wantError(t, append(b, not(atom("q", variable("Z")))), q, at, q, api.ErrFree)
		wantError(t, b, q, at, q, api.ErrMuch)
	}
}
