package check

import (
	"fmt"
	"slices"
	"strconv"
	"strings"
	"testing"

	"corollary/api"
	"corollary/syntax"
)

const (
	form = api.ErrForm
	many = api.ErrMany
	name = api.ErrName
	fit  = api.ErrFit
	free = api.ErrFree
	loop = api.ErrLoop
)

func variable(s string) api.Term { return api.Term{Var: true, Name: s} }

func named(s string) api.Term { return api.Term{Name: s} }

func atom(s string, terms ...api.Term) api.Atom { return api.Atom{Name: s, Terms: terms} }

func not(a api.Atom) api.Atom {
	a.Not = true
	return a
}

func rule(head api.Atom, body ...api.Atom) api.Rule { return api.Rule{Head: head, Body: body} }

func parse(t *testing.T, s string) api.Program {
	t.Helper()
	p, f := syntax.Parse(s)
	if f.Err != api.OK {
		t.Fatalf("Parse(%q): %v", s, f)
	}
	return p
}

// tell tells nil and empty lists the same (Z3), and all else apart.
func tell(l ...any) string { return fmt.Sprintf("%+q", l) }

func wantVars(t *testing.T, a api.Atom, want ...string) {
	t.Helper()
	if got := Vars(a); tell(got) != tell(want) {
		t.Errorf("Vars(%v): %q comes, not %q", a, got, want)
	}
}

func wantBody(t *testing.T, e api.Errno, l ...api.Atom) {
	t.Helper()
	if got := Body(l); got != e {
		t.Errorf("Body(%v): %d comes, not %d", l, got, e)
	}
}

// wantFault asks Strata too, which tells what is Wrong, and nothing beside (Z4).
func wantFault(t *testing.T, p api.Program, e api.Errno, at int) {
	t.Helper()
	want := api.Fault{Err: e, At: at}
	if got := Wrong(p); got != want {
		t.Errorf("Wrong(%v): %v comes, not %v", p, got, want)
	}
	if l, got := Strata(p); got != want || len(l) != 0 {
		t.Errorf("Strata(%v): %v %v comes, not %v", p, l, got, want)
	}
}

func wantStrata(t *testing.T, p api.Program, want ...int) {
	t.Helper()
	if got := Wrong(p); got != (api.Fault{}) {
		t.Errorf("Wrong(%v): %v", p, got)
	}
	if l, got := Strata(p); got != (api.Fault{}) || !slices.Equal(l, want) {
		t.Errorf("Strata(%v): %v %v comes, not %v", p, l, got, want)
	}
}

func wantLoop(t *testing.T, p api.Program) {
	t.Helper()
	if got := Wrong(p); got != (api.Fault{}) {
		t.Errorf("Wrong(%v): %v", p, got)
	}
	if l, got := Strata(p); got != (api.Fault{Err: loop}) || len(l) != 0 {
		t.Errorf("Strata(%v): %v %v comes, not {%d 0}", p, l, got, loop)
	}
}

func TestVars(t *testing.T) {
	x, y, z, a := variable("X"), variable("Y"), variable("Z"), named("a")
	wantVars(t, api.Atom{})
	wantVars(t, api.Atom{Name: "a", Terms: []api.Term{}})
	wantVars(t, atom("a", a, a))
	wantVars(t, atom("a", x), "X")
	wantVars(t, not(atom("a", x, a)), "X")
	wantVars(t, atom("a", z, a, x, y), "Z", "X", "Y")
	wantVars(t, atom("a", y, x, y, x), "Y", "X")
	wantVars(t, atom("X", x, x, x, x), "X")
}

func TestVarsOfWhatNeverWasAText(t *testing.T) {
	wantVars(t, atom("", variable("")), "")
	wantVars(t, atom("a", named("X"), variable("x"), named("x")), "x")
	wantVars(t, atom("a", named("X"), variable("X"), named("X")), "X")
	wantVars(t, atom("a", variable("b"), variable(""), variable("ä\xff"), variable("b"), variable("Long_Long_Long")), "b", "", "ä\xff", "Long_Long_Long")
}

func TestVarsOfManyTerms(t *testing.T) {
	var terms []api.Term
	var want []string
	for i := range 100000 {
		terms = append(terms, variable("V"+strconv.Itoa(i)), variable("V0"))
		want = append(want, "V"+strconv.Itoa(i))
	}
	wantVars(t, atom("a", terms...), want...)
}

// wrongAtoms has atoms, and what is wrong with each.
func wrongAtoms() map[api.Errno][]api.Atom {
	x, a := variable("X"), named("a")
	long := strings.Repeat("a", api.MaxName+1)
	return map[api.Errno][]api.Atom{
		name: {
			{}, atom("A"), atom("_"), atom("a b"), atom("ä"), atom("a\x00"), atom(long), atom(" a"),
			atom("", a, a, a, a, a), atom("A", variable("x")),
			atom("a", variable("x")), atom("a", variable("")), atom("a", variable("_X")), atom("a", variable("1")),
			atom("a", variable("Ä")), atom("a", variable("X"+long)), atom("a", variable("X Y")),
			atom("a", named("X")), atom("a", named("")), atom("a", named("_x")), atom("a", named("ä")), atom("a", named(long)),
			atom("a", a, a, a, named("X")), atom("a", x, x, x, variable("x")), atom("a", a, named("X"), a), atom("a", named("b,c")),
			not(atom("a", named("A"))), not(atom("A")), not(api.Atom{}),
		},
		many: {
			atom("a", a, a, a, a, a), atom("a", x, x, x, x, x), atom("a", a, a, a, a, variable("x")),
			atom("a", make([]api.Term, api.MaxArgs+1)...), atom("a", make([]api.Term, 1<<20)...),
			atom("a", named("X"), a, a, a, a), not(atom("a", a, a, a, a, a)),
		},
	}
}

func TestWrongAtoms(t *testing.T) {
	for e, l := range wrongAtoms() {
		for _, a := range l {
			wantBody(t, e, a)
			wantBody(t, e, atom("b"), not(atom("c")), a)
			wantFault(t, api.Program{rule(a)}, e, 0)
			wantFault(t, api.Program{rule(atom("b"), a)}, e, 0)
			wantFault(t, api.Program{rule(atom("b")), rule(atom("b"), atom("c"), a)}, e, 1)
			wantFault(t, api.Program{rule(atom("b")), rule(atom("c")), rule(a, atom("b"))}, e, 2)
		}
	}
}

func TestRightAtoms(t *testing.T) {
	long, great := strings.Repeat("a", api.MaxName), "X"+strings.Repeat("a", api.MaxName-1)
	x, a := variable(great), named(long)
	for _, c := range []api.Atom{atom("a"), atom("0_X"), atom(long), atom("a", a), atom("a", a, a, a, a), atom(long, x), atom("a", x, x, a, x), atom("a", variable("Z_9"), named("9_Z"))} {
		wantBody(t, api.OK, c)
		wantStrata(t, api.Program{rule(atom("h"), c)}, 0)
	}
	wantStrata(t, api.Program{rule(atom("a", a, a, a, a))}, 0)
	wantStrata(t, api.Program{rule(atom("h", x, a), atom("b", x))}, 0)
}

func TestBody(t *testing.T) {
	x, y, a := variable("X"), variable("Y"), named("a")
	wantBody(t, api.OK)
	wantBody(t, api.OK, []api.Atom{}...)
	wantBody(t, api.OK, not(atom("b")))
	wantBody(t, api.OK, not(atom("b", a, a)))
	wantBody(t, api.OK, atom("b", x), not(atom("c", x)))
	wantBody(t, api.OK, not(atom("c", x)), atom("b", x))
	wantBody(t, api.OK, not(atom("c", x, y)), atom("b", x), not(atom("d", y)), atom("b", y))
	wantBody(t, api.OK, atom("b", x), atom("b", x, y))
	wantBody(t, api.OK, atom("b", x), not(atom("b", x)))
}

func TestFreeInBodies(t *testing.T) {
	x, y, a := variable("X"), variable("Y"), named("a")
	wantBody(t, free, not(atom("b", x)))
	wantBody(t, free, not(atom("b", a, a, a, x)))
	wantBody(t, free, not(atom("b", x)), not(atom("c", x)))
	wantBody(t, free, atom("b", x), not(atom("c", x, y)))
	wantBody(t, free, not(atom("c", y)), atom("b", x))
	wantBody(t, free, atom("b", named("x")), not(atom("c", x)))
	wantBody(t, free, atom("b", variable("X1")), not(atom("c", x)))
	wantBody(t, free, atom("b"), atom("c"), atom("d"), atom("e"), not(atom("f", x)))
}

func TestManyAtoms(t *testing.T) {
	b := atom("b")
	wantBody(t, api.OK, b, b, not(b), b, b)
	wantBody(t, many, b, b, b, b, b, b)
	wantBody(t, many, make([]api.Atom, api.MaxBody+1)...)
	wantBody(t, many, make([]api.Atom, 1<<20)...)
	wantBody(t, many, not(atom("b", variable("X"))), b, b, b, b, b)
	wantStrata(t, api.Program{rule(atom("a"), b, b, b, b, b)}, 0)
	wantFault(t, api.Program{rule(atom("a")), rule(atom("a"), b, b, b, b, b, b)}, many, 1)
}

func TestOrderInBodies(t *testing.T) {
	x, a := variable("X"), named("a")
	freed, noName, wide := not(atom("b", x)), atom("B"), atom("b", a, a, a, a, a)
	wantBody(t, name, noName, wide)
	wantBody(t, many, wide, noName)
	wantBody(t, name, freed, noName)
	wantBody(t, many, freed, wide)
	wantBody(t, name, noName, freed)
	wantBody(t, name, not(atom("b", x, variable("x"))))
}

func TestWrong(t *testing.T) {
	for _, c := range []struct {
		s  string
		e  api.Errno
		at int
	}{
		{"a(X).", free, 0}, {"a(b,X).", free, 0}, {"a(X) :- b(Y).", free, 0}, {"a(X,Y) :- b(X).", free, 0}, {"a(X) :- b(x).", free, 0},
		{"a. a(X) :- b.", free, 1}, {"a :- !b(X).", free, 0}, {"a. b. c(X) :- d(X), !e(Y).", free, 2}, {"a(X) :- !b(X).", free, 0},
		{"a(x). a.", fit, 1}, {"a. a(x).", fit, 1}, {"a :- b(x), b(x,y).", fit, 0}, {"a :- a(x).", fit, 0}, {"a(x) :- !a.", fit, 0},
		{"a :- b. b(x).", fit, 1}, {"a :- b. c. d :- c, !b(x).", fit, 2}, {"a :- b(x). c :- b(x). b.", fit, 2}, {"a :- b. b. a(x). b(x).", fit, 2},
		{"a(x,y). b :- a(X,X,X).", fit, 1}, {"a(X) :- b(X). b(X,X) :- c(X).", fit, 1},
	} {
		wantFault(t, parse(t, c.s), c.e, c.at)
	}
}

func TestHeadsThatAreNot(t *testing.T) {
	a := atom("a")
	wantFault(t, api.Program{rule(not(a))}, form, 0)
	wantFault(t, api.Program{rule(a), rule(a, a), rule(not(a), a)}, form, 2)
	wantFault(t, api.Program{rule(not(atom("A")))}, name, 0)
	wantFault(t, api.Program{rule(not(atom("a", make([]api.Term, 5)...)))}, many, 0)
}

func TestOrderInRules(t *testing.T) {
	x := variable("X")
	b, freed := atom("b"), not(atom("b", x))
	wantFault(t, api.Program{rule(not(atom("a")), atom("B"))}, form, 0)
	wantFault(t, api.Program{rule(not(atom("a", x)), b, b, b, b, b, b)}, form, 0)
	wantFault(t, api.Program{rule(atom("A"), b, b, b, b, b, b)}, name, 0)
	wantFault(t, api.Program{rule(atom("a", x), b, b, b, b, b, b)}, many, 0)
	wantFault(t, api.Program{rule(atom("a", x), atom("B"))}, name, 0)
	wantFault(t, api.Program{rule(atom("a"), b, atom("b", named("x")), atom("B"))}, name, 0)
	wantFault(t, api.Program{rule(atom("a"), b, freed)}, free, 0)
	wantFault(t, api.Program{rule(atom("a", x), b, atom("b", named("x")))}, free, 0)
	wantFault(t, api.Program{rule(b), rule(atom("b", x))}, free, 1)
	wantFault(t, api.Program{rule(b), rule(not(atom("b", x)))}, form, 1)
}

func TestRuleByRule(t *testing.T) {
	x := variable("X")
	one := []struct {
		r api.Rule
		e api.Errno
	}{
		{rule(atom("A")), name},
		{rule(atom("a", make([]api.Term, 5)...)), many},
		{rule(not(atom("a"))), form},
		{rule(atom("a"), atom("B")), name},
		{rule(atom("a"), not(atom("b", x))), free},
		{rule(atom("a", x)), free},
		{rule(atom("a"), atom("a", named("x"))), fit},
	}
	for _, c := range one {
		for _, d := range one {
			wantFault(t, api.Program{c.r, d.r}, c.e, 0)
			wantFault(t, api.Program{rule(atom("h")), c.r, rule(atom("h")), d.r}, c.e, 1)
		}
	}
}

func TestManyRules(t *testing.T) {
	var p api.Program
	for range api.MaxRules {
		p = append(p, rule(atom("a"), atom("b")))
	}
	wantStrata(t, p, make([]int, api.MaxRules)...)
	wantFault(t, append(p, p[0]), many, 0)
	wantFault(t, append(p[:api.MaxRules-1:api.MaxRules-1], rule(atom("A"))), name, api.MaxRules-1)
	wantFault(t, append(p[:1:1], make(api.Program, api.MaxRules)...), many, 0)
	wantFault(t, make(api.Program, api.MaxRules+1), many, 0)
	wantFault(t, make(api.Program, 1<<20), many, 0)
	wantFault(t, make(api.Program, api.MaxRules), name, 0)
}

func TestNothing(t *testing.T) {
	wantStrata(t, nil)
	wantStrata(t, api.Program{})
	wantStrata(t, api.Program{{Head: api.Atom{Name: "a", Terms: []api.Term{}}, Body: []api.Atom{}}}, 0)
	wantStrata(t, api.Program{rule(atom("a")), {Head: api.Atom{Name: "a", Terms: []api.Term{}}, Body: nil}}, 0, 0)
}

func TestStrata(t *testing.T) {
	for _, c := range []struct {
		s    string
		want []int
	}{
		{"a.", []int{0}},
		{"a :- !e.", []int{0}},
		{"a :- b. b :- a.", []int{0, 0}},
		{"a :- a.", []int{0}},
		{"a :- !b. b :- c.", []int{1, 0}},
		{"b :- c. a :- !b.", []int{0, 1}},
		{"a :- b. b :- !c. c.", []int{1, 1, 0}},
		{"a :- !b. b :- !c. c :- !d.", []int{2, 1, 0}},
		{"a :- b, !c. c :- !d. d :- !e. e :- f.", []int{3, 2, 1, 0}},
		{"a. a :- !b. b.", []int{1, 1, 0}},
		{"a :- b. a :- !c. c. d :- a, !a2. a2 :- !c.", []int{1, 1, 0, 2, 1}},
		{"a :- b. b :- a. b :- !c. c :- d. d :- c.", []int{1, 1, 1, 0, 0}},
		{"a :- b, !b. b.", []int{1, 0}},
		{"a :- !b, b. b.", []int{1, 0}},
		{"a :- !b, !c. c :- !b. b.", []int{2, 1, 0}},
		{"a :- !b. c :- !d. b. d.", []int{1, 1, 0, 0}},
		{"p(X) :- e(X), !q(X). q(X) :- e(X), !r(X). r(a).", []int{2, 1, 0}},
		{"path(X,Y) :- edge(X,Y), !shut(Y).", []int{0}},
	} {
		wantStrata(t, parse(t, c.s), c.want...)
	}
}

func TestLoops(t *testing.T) {
	for _, s := range []string{
		"a(x) :- !a(x).", "a :- !a.", "a :- !b. b :- !a.", "a :- !b. b :- a.", "a :- b. b :- !a.", "a :- a, !a.",
		"a :- b. b :- c. c :- !a.", "a :- !b. b :- c. c :- d. d :- a.", "z. y :- z. a. a :- b. b. b :- c, !d. d :- a.",
		"a(X) :- b(X), !a(y).", "a(x) :- !a(y).", "x :- !a. a :- !a.", "a :- !a. a :- b. b.",
	} {
		wantLoop(t, parse(t, s))
	}
}

func TestWrongAheadOfLoop(t *testing.T) {
	wantFault(t, parse(t, "a :- !a. b(X)."), free, 1)
	wantFault(t, parse(t, "a :- !a. b. b(x)."), fit, 2)
}

// chain is of MaxRules heads, each with a Not atom of the next one's name.
func chain(first, last api.Rule) api.Program {
	p := api.Program{first}
	for i := 1; i < api.MaxRules-1; i++ {
		p = append(p, rule(atom("n"+strconv.Itoa(i)), not(atom("n"+strconv.Itoa(i+1)))))
	}
	return append(p, last)
}

func TestLongChains(t *testing.T) {
	first, end := rule(atom("n0"), not(atom("n1"))), "n"+strconv.Itoa(api.MaxRules-1)
	p := chain(first, rule(atom(end)))
	var want []int
	for i := range api.MaxRules {
		want = append(want, api.MaxRules-1-i)
	}
	wantStrata(t, p, want...)
	slices.Reverse(p)
	slices.Reverse(want)
	wantStrata(t, p, want...)
	for i := range 2 {
		wantLoop(t, chain(first, rule(atom(end), not(atom("n"+strconv.Itoa(i))))))
		wantLoop(t, chain(first, rule(atom(end), atom("n"+strconv.Itoa(i)))))
	}
	wantLoop(t, chain(first, rule(atom(end), not(atom(end)))))
}

// A program whose every list has spare room, in which stands what would be told
// if it were looked at.
func withSpareRoom() (api.Program, func() string) {
	bad := api.Term{Var: true, Name: "no variable"}
	terms := []api.Term{variable("X"), named("b"), bad, bad, bad}
	headTerms := []api.Term{named("b"), bad}
	body := []api.Atom{atom("c", terms[:2]...), not(atom("d", terms[:1]...)), not(atom("spare", terms...))}
	rules := api.Program{rule(atom("d", headTerms[:1]...)), rule(atom("a", terms[:1]...), body[:2]...), rule(not(atom("Spare")))}
	return rules[:2], func() string { return tell(terms, headTerms, body, rules) }
}

func TestWhatIsHandedInIsOnlyRead(t *testing.T) {
	p, all := withSpareRoom()
	want := all()
	wantStrata(t, p, 0, 1)
	wantBody(t, api.OK, p[1].Body...)
	wantVars(t, p[1].Head, "X")
	wantVars(t, p[0].Head)
	if all() != want {
		t.Error("what was handed in is changed")
	}
	p = parse(t, "a(X) :- b(X,Y), !c(Y). c(x). a :- !a.")
	want = tell(p)
	wantFault(t, p, fit, 2)
	if tell(p) != want {
		t.Error("what was handed in is changed beside a fault")
	}
}

func TestAnswersAreNewMemory(t *testing.T) {
	a := atom("a", variable("X"), variable("Y"), variable("X"))
	first, second := Vars(a), Vars(a)
	second = second[:cap(second)]
	for i := range second {
		second[i] = "Spoiled"
	}
	if tell(first) != tell([]string{"X", "Y"}) {
		t.Error("two answers of Vars share memory")
	}
	a.Terms[0] = variable("Spoiled")
	if tell(first) != tell([]string{"X", "Y"}) {
		t.Error("an answer of Vars hangs on what was handed in")
	}
	wantVars(t, a, "Spoiled", "Y", "X")

	p := parse(t, "a :- !b. b. c.")
	one, _ := Strata(p)
	two, _ := Strata(p)
	two = two[:cap(two)]
	for i := range two {
		two[i] = 7
	}
	p[0] = p[1]
	if !slices.Equal(one, []int{1, 0, 0}) {
		t.Error("two answers of Strata share memory")
	}
}

func TestAnswersHangOnArgumentsAlone(t *testing.T) {
	p := parse(t, "a :- !b. b :- !c. c :- !d. d :- !e. e. f :- g. g :- f. h :- !g, !a.")
	first, _ := Strata(p)
	for range 100 {
		if again, f := Strata(p); f.Err != api.OK || !slices.Equal(again, first) {
			t.Fatalf("Strata tells two things: %v, %v", first, again)
		}
	}
}

// Of all programs of few rules over few names, Strata tells what is found by
// trying all numbers.
func TestStrataOfAllSmallPrograms(t *testing.T) {
	heads := []string{"a", "b", "c"}
	var one []api.Atom
	for _, n := range []string{"a", "b", "c", "d"} {
		one = append(one, atom(n), not(atom(n)))
	}
	short, long := [][]api.Atom{nil}, [][]api.Atom{nil}
	for _, x := range one {
		short = append(short, []api.Atom{x})
		long = append(long, []api.Atom{x})
		for _, y := range one {
			long = append(long, []api.Atom{x, y})
		}
	}
	allPrograms(heads, long, 2, func(p api.Program) { compareStrata(t, heads, p) })
	allPrograms(heads, short, 3, func(p api.Program) { compareStrata(t, heads, p) })
}

func allPrograms(heads []string, bodies [][]api.Atom, most int, look func(api.Program)) {
	var walk func(p api.Program)
	walk = func(p api.Program) {
		look(p)
		if len(p) == most {
			return
		}
		for _, h := range heads {
			for _, b := range bodies {
				walk(append(p[:len(p):len(p)], rule(atom(h), b...)))
			}
		}
	}
	walk(nil)
}

func compareStrata(t *testing.T, heads []string, p api.Program) {
	got, f := Strata(p)
	least, some := triedStrata(heads, p)
	if !some {
		if f != (api.Fault{Err: loop}) || len(got) != 0 {
			t.Errorf("Strata(%v): %v %v comes, and there are none", p, got, f)
		}
		return
	}
	var want []int
	for _, r := range p {
		want = append(want, least[r.Head.Name])
	}
	if f != (api.Fault{}) || !slices.Equal(got, want) {
		t.Errorf("Strata(%v): %v %v comes, not %v", p, got, f, want)
	}
}

// triedStrata tells for each name the least number that it has in any numbering
// that holds.
func triedStrata(heads []string, p api.Program) (map[string]int, bool) {
	least := map[string]int{}
	some := false
	for a := range 4 {
		for b := range 4 {
			for c := range 4 {
				of := map[string]int{heads[0]: a, heads[1]: b, heads[2]: c}
				if !holds(of, p) {
					continue
				}
				for h, n := range of {
					if m, ok := least[h]; !ok || n < m {
						least[h] = n
					}
				}
				some = true
			}
		}
	}
	return least, some
}

func holds(of map[string]int, p api.Program) bool {
	for _, r := range p {
		for _, a := range r.Body {
			for _, s := range p {
				if s.Head.Name != a.Name {
					continue
				}
				if of[r.Head.Name] < of[a.Name] || a.Not && of[r.Head.Name] == of[a.Name] {
					return false
				}
			}
		}
	}
	return true
}

// Of all programs of at most two rules over a few atoms, right and wrong, Wrong
// tells what a list of all that is wrong begins with. Behind a first rule that is
// wrong, one second rule stands for all: TestRuleByRule has others.
func TestWrongOfAllSmallPrograms(t *testing.T) {
	x, y, a := variable("X"), variable("Y"), named("a")
	pool := []api.Atom{
		atom("a"), atom("b"), atom("a", x), not(atom("a", x)), atom("b", x), not(atom("b", y)),
		atom("B"), atom("a", a, a, a, a, a), atom("a", named("A")), not(atom("b", variable("a"))),
	}
	bodies := [][]api.Atom{nil}
	for _, x := range pool {
		bodies = append(bodies, []api.Atom{x})
		for _, y := range pool {
			bodies = append(bodies, []api.Atom{x, y})
		}
	}
	var rules []api.Rule
	for _, h := range pool {
		for _, b := range bodies {
			rules = append(rules, rule(h, b...))
		}
	}
	for _, r := range rules {
		compareWrong(t, api.Program{r})
		if len(allWrong(api.Program{r})) > 0 {
			compareWrong(t, api.Program{r, rules[0]})
			continue
		}
		for _, s := range rules {
			compareWrong(t, api.Program{r, s})
		}
	}
}

func compareWrong(t *testing.T, p api.Program) {
	var want api.Fault
	if all := allWrong(p); len(all) > 0 {
		want = all[0]
	}
	if got := Wrong(p); got != want {
		t.Errorf("Wrong(%v): %v comes, not %v", p, got, want)
	}
	for _, r := range p {
		var e api.Errno
		if all := allWrongBody(r.Body); len(all) > 0 {
			e = all[0]
		}
		wantBody(t, e, r.Body...)
	}
	if l, f := Strata(p); want.Err != api.OK && (f != want || len(l) != 0) {
		t.Errorf("Strata(%v): %v %v comes, not %v", p, l, f, want)
	}
}

// allWrong goes on behind what is wrong, and so tells all of it.
func allWrong(p api.Program) []api.Fault {
	var out []api.Fault
	for i, r := range p {
		l := allWrongAtom(r.Head)
		if r.Head.Not {
			l = append(l, form)
		}
		l = append(l, allWrongBody(r.Body)...)
		for _, v := range r.Head.Terms {
			if v.Var && !slices.ContainsFunc(r.Body, func(a api.Atom) bool { return slices.Contains(a.Terms, v) }) {
				l = append(l, free)
			}
		}
		for _, a := range append([]api.Atom{r.Head}, r.Body...) {
			if len(a.Terms) != len(firstOf(a.Name, p).Terms) {
				l = append(l, fit)
			}
		}
		for _, e := range l {
			out = append(out, api.Fault{Err: e, At: i})
		}
	}
	return out
}

func firstOf(s string, p api.Program) api.Atom {
	for _, r := range p {
		for _, a := range append([]api.Atom{r.Head}, r.Body...) {
			if a.Name == s {
				return a
			}
		}
	}
	return api.Atom{}
}

func allWrongBody(l []api.Atom) []api.Errno {
	var out []api.Errno
	for _, a := range l {
		out = append(out, allWrongAtom(a)...)
	}
	for _, a := range l {
		for _, v := range a.Terms {
			if v.Var && !slices.ContainsFunc(l, func(b api.Atom) bool { return !b.Not && slices.Contains(b.Terms, v) }) {
				out = append(out, free)
			}
		}
	}
	return out
}

// allWrongAtom knows names and variables of the pool's letters alone.
func allWrongAtom(a api.Atom) []api.Errno {
	var out []api.Errno
	if a.Name == "B" {
		out = append(out, name)
	}
	if len(a.Terms) > api.MaxArgs {
		out = append(out, many)
	}
	for _, t := range a.Terms {
		if t.Var != strings.Contains("XYA", t.Name) {
			out = append(out, name)
		}
	}
	return out
}
