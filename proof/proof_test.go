package proof

import (
	"cmp"
	"math"
	"slices"
	"strconv"
	"strings"
	"testing"

	"corollary/api"
	"corollary/syntax"
)

const (
	ok   = api.OK
	kind = api.ErrKind
	form = api.ErrForm
	much = api.ErrMuch
	many = api.ErrMany
	none = api.ErrNone
	name = api.ErrName
	fit  = api.ErrFit
	free = api.ErrFree
	loop = api.ErrLoop
)

func variable(s string) api.Term { return api.Term{Var: true, Name: s} }

func named(s string) api.Term { return api.Term{Name: s} }

func atom(s string, terms ...api.Term) api.Atom { return api.Atom{Name: s, Terms: terms} }

func not(a api.Atom) api.Atom {
	a.Not = true
	return a
}

func mk(name string, args ...string) api.Fact { return api.Fact{Name: name, Args: args} }

func parse(t *testing.T, s string) api.Program {
	t.Helper()
	p, f := syntax.Parse(s)
	if f.Err != api.OK {
		t.Fatalf("Parse(%q): %v", s, f)
	}
	return p
}

// list reads facts with blanks between them, as they stand there.
func list(s string) []api.Fact {
	var out []api.Fact
	for _, w := range strings.Fields(s) {
		f, args, some := strings.Cut(strings.TrimSuffix(w, ")"), "(")
		if some {
			out = append(out, mk(f, strings.Split(args, ",")...))
		} else {
			out = append(out, mk(f))
		}
	}
	return out
}

// toldFact writes a fact as list reads it; a name without bytes is written as ?.
func toldFact(f api.Fact) string {
	s := cmp.Or(f.Name, "?")
	if len(f.Args) > 0 {
		s += "(" + strings.Join(f.Args, ",") + ")"
	}
	return s
}

func toldFacts(l []api.Fact) string {
	var out []string
	for _, f := range l {
		out = append(out, toldFact(f))
	}
	return strings.Join(out, " ")
}

// why reads a proof: a fact, a : and its Rule (of what was told neither), and its
// Kids in brackets, with blanks between them.
func why(s string) api.Proof {
	x, rest := readProof(s)
	if rest != "" {
		panic("no proof: " + s)
	}
	return x
}

func readProof(s string) (api.Proof, string) {
	end := strings.IndexAny(s+" ", ":[] ")
	x := api.Proof{Fact: list(s[:end])[0], Rule: -1}
	s = s[end:]
	if strings.HasPrefix(s, ":") {
		end = strings.IndexAny(s+" ", "[] ")
		n, err := strconv.Atoi(s[1:end])
		if err != nil {
			panic(err)
		}
		x.Rule, s = n, s[end:]
	}
	if !strings.HasPrefix(s, "[") {
		return x, s
	}
	for s[0] != ']' {
		var kid api.Proof
		kid, s = readProof(s[1:])
		x.Kids = append(x.Kids, kid)
	}
	return x, s[1:]
}

func toldProof(x api.Proof) string {
	s := toldFact(x.Fact)
	if x.Rule != -1 {
		s += ":" + strconv.Itoa(x.Rule)
	}
	var kids []string
	for _, k := range x.Kids {
		kids = append(kids, toldProof(k))
	}
	if len(kids) > 0 {
		s += "[" + strings.Join(kids, " ") + "]"
	}
	return s
}

func wantSize(t *testing.T, x api.Proof, count, depth int) {
	t.Helper()
	if n, d := Size(x); n != count || d != depth {
		t.Errorf("Size: %d %d comes, not %d %d", n, d, count, depth)
	}
}

func wantCheck(t *testing.T, p api.Program, l []api.Fact, x api.Proof, err api.Errno) {
	t.Helper()
	if e := Check(p, l, x); e != err {
		t.Errorf("Check(%v, %.300s, %.300s): %d comes, not %d", p, toldFacts(l), toldProof(x), e, err)
	}
}

// wantProof: nothing is wrong with what is proved.
func wantProof(t *testing.T, p api.Program, l []api.Fact, f api.Fact, x string) {
	t.Helper()
	got, e := Prove(p, l, f)
	if e != ok || toldProof(got) != x {
		t.Errorf("Prove(%v, %.300s, %s): %.600s %d comes, not %.600s", p, toldFacts(l), toldFact(f), toldProof(got), e, x)
	}
	wantCheck(t, p, l, got, ok)
}

// wantNoProof: beside an error there is no proof (Z4).
func wantNoProof(t *testing.T, p api.Program, l []api.Fact, f api.Fact, err api.Errno) {
	t.Helper()
	got, e := Prove(p, l, f)
	if e != err || toldProof(got) != toldProof(api.Proof{}) {
		t.Errorf("Prove(%v, %.300s, %.300s): %.300s %d comes, not %d", p, toldFacts(l), toldFact(f), toldProof(got), e, err)
	}
}

// wantRefused: All's error comes first, of both, whatever else is wrong.
func wantRefused(t *testing.T, p api.Program, l []api.Fact, err api.Errno) {
	t.Helper()
	for _, s := range []string{"a", "A", "b:0[a(x)]", "c:99", "a:-2"} {
		wantCheck(t, p, l, why(s), err)
		wantNoProof(t, p, l, why(s).Fact, err)
	}
	wantCheck(t, p, l, tower("a", api.MaxDeep+1), err)
}

// tower has n proofs of one fact in one another, by rule 0; the last one was told.
func tower(f string, n int) api.Proof {
	x := why(f)
	for range n - 1 {
		x = api.Proof{Fact: x.Fact, Kids: []api.Proof{x}}
	}
	return x
}

func TestSize(t *testing.T) {
	for _, c := range []struct {
		x            string
		count, depth int
	}{
		{"a", 1, 1},
		{"a:0", 1, 1},
		{"a(x,y):-7", 1, 1},
		{"a[b]", 2, 2},
		{"a:3[b c d e f]", 6, 2},
		{"a[b[c[d]]]", 4, 4},
		{"a[b[c] d]", 4, 3},
		{"a[b c[d]]", 4, 3},
		{"a[b c[d[e]] f[g h i]]", 9, 4},
		{"a[a[a a] a[a a]]", 7, 3},
		{"t(a,c):1[t(a,b):0[e(a,b)] e(b,c)]", 4, 3},
	} {
		wantSize(t, why(c.x), c.count, c.depth)
	}
	wantSize(t, api.Proof{}, 1, 1)
	wantSize(t, api.Proof{Kids: []api.Proof{}}, 1, 1)
	wantSize(t, api.Proof{Kids: make([]api.Proof, 0, 5)}, 1, 1)
	wantSize(t, api.Proof{Kids: make([]api.Proof, 100000)}, 100001, 2)
}

// As deep as may be handed in, and as wide at each level as the one below is long.
func TestSizeOfGreatProofs(t *testing.T) {
	wantSize(t, tower("a", 1<<16), 1<<16, 1<<16)
	x := api.Proof{}
	for range 19 {
		x = api.Proof{Kids: []api.Proof{x, x}}
	}
	wantSize(t, x, 1<<20-1, 20)
	x = api.Proof{}
	for n := range 500 {
		x = api.Proof{Kids: append(make([]api.Proof, n), x)}
	}
	wantSize(t, x, 501+499*500/2, 501)
}

// trees has all proofs of n in all, whatever stands in them.
func trees(n int) []api.Proof {
	var out []api.Proof
	for _, kids := range rows(n - 1) {
		out = append(out, api.Proof{Kids: kids})
	}
	return out
}

func rows(n int) [][]api.Proof {
	if n == 0 {
		return [][]api.Proof{nil}
	}
	var out [][]api.Proof
	for first := 1; first <= n; first++ {
		for _, x := range trees(first) {
			for _, rest := range rows(n - first) {
				out = append(out, slices.Concat([]api.Proof{x}, rest))
			}
		}
	}
	return out
}

func depth(x api.Proof) int {
	deep := 0
	for _, k := range x.Kids {
		deep = max(deep, depth(k))
	}
	return deep + 1
}

func TestSizeOfAllSmallProofs(t *testing.T) {
	for n, many := range []int{1, 1, 2, 5, 14, 42, 132, 429} {
		all := trees(n + 1)
		if len(all) != many {
			t.Fatalf("%d proofs of %d", len(all), n+1)
		}
		for _, x := range all {
			wantSize(t, x, n+1, depth(x))
		}
	}
}

const (
	rulesText = "t(X,Y) :- e(X,Y). t(X,Z) :- t(X,Y), e(Y,Z). n(X) :- v(X), !t(a,X). z. " +
		"k(X) :- !w(X), e(X,Y), !t(Y,b), e(Y,Z). s(X,X) :- v(X). o(a,X) :- e(X,b), v(Y). y :- !z. x :- !w(a)."
	factsText = "e(a,b) e(b,c) e(c,a) v(a) v(d)"
)

func TestCheck(t *testing.T) {
	p, l := parse(t, rulesText), list(factsText)
	for _, c := range []struct {
		x   string
		err api.Errno
	}{
		{"e(a,b)", ok},
		{"v(d)", ok},
		{"e(a,c)", none},
		{"e(a)", none},
		{"e", none},
		{"t(a,b)", none},
		{"z", none},
		{"u", none},
		{"E(a,b)", none},
		{"e(a,b):-2", none},
		{"e(a,b):-3", none},
		{"e(a,b)[e(a,b)]", none},
		{"e(a,b)[e(a,b) v(a)]", none},
		{"t(a,b):9", kind},
		{"t(a,b):10", kind},
		{"e(a,b):9", kind},
		{"t(a,b):0[e(a,b)]", ok},
		{"t(b,a):0[e(a,b)]", fit},
		{"t(a,b):0[v(a)]", fit},
		{"t(a,b):0[e(a)]", fit},
		{"t(a,b):0[e(a,b,c)]", fit},
		{"t(a):0[e(a,b)]", fit},
		{"t(a,b,c):0[e(a,b)]", fit},
		{"n(a):0[e(a,b)]", fit},
		{"e(a,b):0[e(a,b)]", fit},
		{"t(a,b):0", many},
		{"t(a,b):0[e(a,b) e(a,b)]", many},
		{"t(a,c):1[t(a,b):0[e(a,b)]]", many},
		{"t(a,c):1", many},
		{"t(a,c):1[t(a,b):0[e(a,b)] e(b,c)]", ok},
		{"t(a,c):1[t(a,b):0[e(a,b)] e(c,a)]", fit},
		{"t(a,a):1[t(a,b):0[e(a,b)] e(b,c)]", fit},
		{"t(b,c):1[t(a,b):0[e(a,b)] e(b,c)]", fit},
		{"t(a,c):1[e(b,c) t(a,b):0[e(a,b)]]", fit},
		{"t(a,c):1[t(a,b):0[e(a,b)] e(b,c) e(b,c)]", many},
		{"n(d):2[v(d)]", ok},
		{"n(a):2[v(a)]", loop},
		{"n(d):2[v(a)]", fit},
		{"z:3", ok},
		{"z:3[z:3]", many},
		{"z(a):3", fit},
		{"k(c):4[e(c,a) e(a,b)]", loop},
		{"k(a):4[e(a,b) e(b,c)]", loop},
		{"k(a):4[e(a,b) e(c,a)]", fit},
		{"s(a,a):5[v(a)]", ok},
		{"s(a,d):5[v(a)]", fit},
		{"s(d,a):5[v(a)]", fit},
		{"o(a,a):6[e(a,b) v(a)]", ok},
		{"o(a,a):6[e(a,b) v(d)]", ok},
		{"o(b,a):6[e(a,b) v(a)]", fit},
		{"o(a,b):6[e(b,c) v(a)]", fit},
		{"y:7", loop},
		{"y:7[y]", many},
		{"x:8", ok},
	} {
		wantCheck(t, p, l, why(c.x), c.err)
	}
	for _, n := range []int{math.MinInt, -1 << 32, -1<<32 - 1} {
		wantCheck(t, p, l, api.Proof{Fact: l[0], Rule: n}, none)
	}
	for _, n := range []int{api.MaxRules, 1 << 32, math.MaxInt} {
		wantCheck(t, p, l, api.Proof{Fact: mk("t", "a", "b"), Rule: n}, kind)
	}
	wantCheck(t, p, l, api.Proof{}, fit)
	wantCheck(t, nil, nil, api.Proof{}, kind)
	wantCheck(t, nil, l, why("e(a,b)"), ok)
	wantCheck(t, nil, nil, why("e(a,b)"), none)
}

// A Not atom is asked of all that follows, of whatever the Kids' variables are.
func TestCheckNotAtoms(t *testing.T) {
	p := parse(t, "k(X) :- !w(X), e(X,Y), !v(Y), !t(Y,Z), e(Y,Z). t(X,Y) :- e(X,Y), q.")
	for _, c := range []struct {
		l   string
		err api.Errno
	}{
		{"e(a,b) e(b,c)", ok},
		{"e(a,b) e(b,c) w(b)", ok},
		{"e(a,b) e(b,c) w(a)", loop},
		{"e(a,b) e(b,c) v(a) v(c)", ok},
		{"e(a,b) e(b,c) v(b)", loop},
		{"e(a,b) e(b,c) q", loop},
		{"e(a,b) e(b,c) t(b,c)", loop},
		{"e(a,b) e(b,c) t(a,b) t(b,b)", ok},
	} {
		wantCheck(t, p, list(c.l), why("k(a):0[e(a,b) e(b,c)]"), c.err)
	}
}

// Where several errors fit, the first one in the chapter's order is told.
func TestWhichErrorOfCheckIsFirst(t *testing.T) {
	p, l := parse(t, rulesText), list(factsText)
	for _, c := range []struct {
		x   string
		err api.Errno
	}{
		{"u:-2[u:99]", none},
		{"u[u:99]", none},
		{"e(a,b)[u:99]", none},
		{"u:9[u:-2]", kind},
		{"u:0", fit},
		{"u:0[u:99 u:99]", fit},
		{"n(a,a):2", fit},
		{"t(a,c):1[e(b,c)]", fit},
		{"t(a,c):1[u:99]", fit},
		{"t(a,c):1[t(a,b):99]", many},
		{"t(a,c):1[t(a,b):99 u]", fit},
		{"t(a,c):1[u t(a,b) e(b,c)]", fit},
		{"t(a,c):1[t(a,b):99 e(b,c) u]", many},
		{"t(a,c):1[t(a,b):99 e(c,c) u]", fit},
		{"n(a):2", many},
		{"n(a):2[v(d)]", fit},
		{"n(a):2[v(a) v(a)]", many},
		{"n(a):2[v(a):99]", loop},
		{"n(a):2[v(a):-2]", loop},
		{"n(d):2[v(d):99]", kind},
		{"y:7[u:99]", many},
		{"t(a,c):1[t(a,b):99 e(b,c):-2]", kind},
		{"t(a,c):1[t(a,b):0[e(a,b):-2] e(b,c):99]", none},
		{"t(a,c):1[t(a,b):0[e(a,c):99] e(b,c):-2]", fit},
		{"t(a,c):1[t(a,b):0[e(a,b)] e(b,c):99]", kind},
		{"t(a,a):1[t(a,c):1[t(a,b):0[e(a,b):99] e(b,c):-2] e(c,a):0]", kind},
		{"t(a,a):1[t(a,c):1[t(a,b):0[e(a,b)] e(b,c):-2] e(c,a):0]", none},
		{"t(a,a):1[t(a,c):1[t(a,b):0[e(a,b)] e(b,c)] e(c,a):0]", fit},
	} {
		wantCheck(t, p, l, why(c.x), c.err)
	}
}

// A proof's facts may come over and over in it: only Prove asks how old they are.
func TestCheckAsksNotHowOld(t *testing.T) {
	p := parse(t, "a :- b. b :- a. a :- a.")
	for _, s := range []string{"a", "b:1[a]", "a:0[b:1[a]]", "a:2[a]", "a:2[a:2[a:0[b:1[a:2[a]]]]]"} {
		wantCheck(t, p, list("a"), why(s), ok)
		wantCheck(t, p, nil, why(s), none)
	}
}

// parts has x, and all proofs in it, in the order in which they are looked at.
func parts(x *api.Proof) []*api.Proof {
	out := []*api.Proof{x}
	for i := range x.Kids {
		out = append(out, parts(&x.Kids[i])...)
	}
	return out
}

// change makes one step of a proof wrong, and leaves its fact, so that nothing is
// wrong above it.
type change struct {
	err  api.Errno
	make func(x *api.Proof)
}

func changes(x api.Proof) []change {
	out := []change{
		{none, func(x *api.Proof) { x.Rule = -2 }},
		{none, func(x *api.Proof) { x.Rule, x.Kids = -1, []api.Proof{why("v(a)")} }},
		{kind, func(x *api.Proof) { x.Rule = 9 }},
		{fit, func(x *api.Proof) { x.Rule = 3 }},
	}
	if x.Rule == -1 {
		return out
	}
	return append(out,
		change{none, func(x *api.Proof) { x.Rule, x.Kids = -1, nil }},
		change{many, func(x *api.Proof) { x.Kids = append(x.Kids, why("v(a)")) }},
		change{many, func(x *api.Proof) { x.Kids = x.Kids[:len(x.Kids)-1] }},
		change{fit, func(x *api.Proof) { x.Kids[len(x.Kids)-1].Fact = mk("v", "a") }})
}

const deepProof = "t(a,b):1[t(a,a):1[t(a,c):1[t(a,b):0[e(a,b)] e(b,c)] e(c,a)] e(a,b)]"

func TestCheckEverywhere(t *testing.T) {
	p, l, looked := parse(t, rulesText), list(factsText), 0
	right := why(deepProof)
	wantCheck(t, p, l, right, ok)
	for i, part := range parts(&right) {
		for _, c := range changes(*part) {
			x := why(deepProof)
			c.make(parts(&x)[i])
			wantCheck(t, p, l, x, c.err)
			looked++
		}
	}
	if looked != 4*8+4*4 {
		t.Errorf("%d proofs were looked at", looked)
	}
}

// Of two that are wrong, the one that is looked at first is told.
func TestCheckTellsTheFirstOne(t *testing.T) {
	p, l := parse(t, rulesText), list(factsText)
	right := why(deepProof)
	all := parts(&right)
	for i, first := range all {
		for j := i + 1; j < len(all); j++ {
			for _, c := range changes(*first) {
				for _, late := range changes(*all[j]) {
					x := why(deepProof)
					at := parts(&x)
					late.make(at[j])
					c.make(at[i])
					wantCheck(t, p, l, x, c.err)
				}
			}
		}
	}
}
