package syntax

import (
	"fmt"
	"reflect"
	"strings"
	"testing"

	"corollary/api"
)

const (
	form = api.ErrForm
	name = api.ErrName
	many = api.ErrMany
	much = api.ErrMuch
)

func word(n int) string { return strings.Repeat("a", n) }

func variable(s string) api.Term { return api.Term{Var: true, Name: s} }

func named(s string) api.Term { return api.Term{Name: s} }

func atom(s string, terms ...api.Term) api.Atom { return api.Atom{Name: s, Terms: terms} }

func not(a api.Atom) api.Atom {
	a.Not = true
	return a
}

func rule(head api.Atom, body ...api.Atom) api.Rule { return api.Rule{Head: head, Body: body} }

// tell tells nil and empty lists the same (Z3), and all else apart.
func tell(l ...any) string { return fmt.Sprintf("%+q", l) }

func wantRules(t *testing.T, s string, want ...api.Rule) {
	t.Helper()
	p, f := Parse(s)
	if f != (api.Fault{}) || tell([]api.Rule(p)) != tell(want) {
		t.Errorf("Parse(%q): %v %v comes, not %v", s, p, f, want)
	}
}

func wantBody(t *testing.T, s string, want ...api.Atom) {
	t.Helper()
	l, f := Body(s)
	if f != (api.Fault{}) || tell(l) != tell(want) {
		t.Errorf("Body(%q): %v %v comes, not %v", s, l, f, want)
	}
}

// wantNoRules asks too that nothing stands beside a fault (Z4).
func wantNoRules(t *testing.T, s string, e api.Errno, at int) {
	t.Helper()
	p, f := Parse(s)
	if f != (api.Fault{Err: e, At: at}) || len(p) != 0 {
		t.Errorf("Parse(%q): %v %v comes, not {%d %d}", s, p, f, e, at)
	}
}

func wantNoBody(t *testing.T, s string, e api.Errno, at int) {
	t.Helper()
	l, f := Body(s)
	if f != (api.Fault{Err: e, At: at}) || len(l) != 0 {
		t.Errorf("Body(%q): %v %v comes, not {%d %d}", s, l, f, e, at)
	}
}

func TestVariable(t *testing.T) {
	for i := range 256 {
		c := byte(i)
		great := 'A' <= c && c <= 'Z'
		part := great || 'a' <= c && c <= 'z' || '0' <= c && c <= '9' || c == '_'
		one := string([]byte{c})
		if got := Variable(one); got != great {
			t.Errorf("Variable(%q): %v", one, got)
		}
		for _, s := range []string{"X" + one, "A" + one + "_", "Z" + strings.Repeat("1", api.MaxName-2) + one} {
			if got := Variable(s); got != part {
				t.Errorf("Variable(%q): %v", s, got)
			}
		}
	}
	for n := range 3 * api.MaxName {
		if got := Variable(strings.Repeat("X", n)); got != (1 <= n && n <= api.MaxName) {
			t.Errorf("Variable of %d bytes: %v", n, got)
		}
	}
	if Variable("Ä") || Variable("XÄ") || Variable(strings.Repeat("X", 1<<20)) {
		t.Error("Variable tells a variable where there is none")
	}
}

func TestParse(t *testing.T) {
	x, y := variable("X"), variable("Y")
	wantRules(t, "")
	wantRules(t, " \n\n % note")
	wantRules(t, "%")
	wantRules(t, "a.", rule(atom("a")))
	wantRules(t, "0_X(1,Z_9).", rule(atom("0_X", named("1"), variable("Z_9"))))
	wantRules(t, "path(X,Y) :- edge(X,Y), !shut(Y).",
		rule(atom("path", x, y), atom("edge", x, y), not(atom("shut", y))))
	wantRules(t, "a.b.a:-b.", rule(atom("a")), rule(atom("b")), rule(atom("a"), atom("b")))
	wantRules(t, "a:-!b,c,!d(e).", rule(atom("a"), not(atom("b")), atom("c"), not(atom("d", named("e")))))
	wantRules(t, "a(X,x,X):-a.", rule(atom("a", x, named("x"), x), atom("a")))
}

func TestBody(t *testing.T) {
	x := variable("X")
	wantBody(t, "a", atom("a"))
	wantBody(t, "!a", not(atom("a")))
	wantBody(t, "e(X,b),!f(X)", atom("e", x, named("b")), not(atom("f", x)))
	wantBody(t, " % note\n ! % note\n a ( X ) % note", not(atom("a", x)))
}

func TestBlanksStandAheadOfAll(t *testing.T) {
	parts := []string{"p", "(", "X", ",", "y", ")", ":-", "!", "e", "(", "X", ")", ",", "q", ".", "s", ".", ""}
	x := variable("X")
	want := []api.Rule{rule(atom("p", x, named("y")), not(atom("e", x)), atom("q")), rule(atom("s"))}
	for _, blank := range []string{"", " ", "\n", "  \n ", "%\n", "%:-.%(),!a\n", " % a \xff\t\r\x00ä\n% b\n ", "\n\n%%\n"} {
		wantRules(t, strings.Join(parts, blank), want...)
		wantRules(t, blank+strings.Join(parts, blank), want...)
		for i := range parts {
			s := strings.Join(parts[:i], "") + blank + strings.Join(parts[i:], "")
			wantRules(t, s, want...)
		}
	}
	wantRules(t, "a.% note up to the end", rule(atom("a")))
}

func TestOtherBytesAreNoBlanks(t *testing.T) {
	for i := range 256 {
		c := string([]byte{byte(i)})
		if strings.Contains(" \n%", c) {
			continue
		}
		if !strings.Contains("abcdefghijklmnopqrstuvwxyz0123456789ABCDEFGHIJKLMNOPQRSTUVWXYZ_", c) {
			wantNoRules(t, c, form, 0)
			wantNoRules(t, "a."+c, form, 2)
			if c != "!" {
				wantNoBody(t, " "+c, form, 1)
			}
			wantNoRules(t, "a( "+c, form, 3)
		}
		if !strings.Contains(".(:", c) {
			wantNoRules(t, "a "+c+".", form, 2)
		}
	}
}

func TestFormOfRules(t *testing.T) {
	for _, c := range []struct {
		s  string
		at int
	}{
		{"a", 1}, {"a ", 2}, {"a % note", 8}, {"a\n% note\n", 9}, {"a b.", 2}, {"a%\nb.", 3},
		{"..", 0}, {"a..", 2}, {"a.,", 2}, {"(a).", 0}, {"!a.", 0}, {" % ! a\n !a.", 8},
		{"a(", 2}, {"a()", 2}, {"a( ).", 3}, {"a(,b).", 2}, {"a(b", 3}, {"a(b.", 3}, {"a(b c).", 4}, {"a(b,).", 4},
		{"a(b,,c).", 4}, {"a(!b).", 2}, {"a(b(c)).", 3}, {"a((b)).", 2}, {"a(-).", 2}, {"a(b):", 4}, {"a(b))", 4},
		{"a(b)(c).", 4}, {"a,b.", 1}, {"a(b),c.", 4},
		{"a :- .", 5}, {"a:-", 3}, {"a:- % b\n", 8}, {"a:-,b.", 3}, {"a:-b", 4}, {"a:-b,.", 5}, {"a:-b,,c.", 5}, {"a:-b, % note\n .", 14},
		{"a:-!.", 4}, {"a:-!!b.", 4}, {"a:- ! ! b.", 6}, {"a:-b!c.", 4}, {"a:-b c.", 5}, {"a:-(b).", 3}, {"a:-b:-c.", 4},
		{"a : - b.", 2}, {"a:b.", 1}, {"a-b.", 1}, {"a:%\n-b.", 1}, {"a:\n-b.", 1}, {"a:", 1}, {":-b.", 0},
		{"ab\xe4.", 2}, {"ä.", 0}, {"a(ä).", 2}, {"a(bä).", 3},
		{"a. b. c(d,.", 10}, {"a.b:-c.d", 8},
	} {
		wantNoRules(t, c.s, form, c.at)
	}
}

func TestFormOfBodies(t *testing.T) {
	for _, c := range []struct {
		s  string
		at int
	}{
		{"", 0}, {"  ", 2}, {"% note", 6}, {"%\n%\n", 4}, {"!", 1}, {"! % a", 5}, {"!!a", 1}, {".", 0}, {"a.", 1}, {"a .", 2},
		{"a,", 2}, {"a, ", 3}, {"a,,b", 2}, {",a", 0}, {"a b", 2}, {"a!b", 1}, {"a:-b", 1}, {"a(b)c", 4}, {"a(b", 3},
		{"a()", 2}, {"a(b),!", 6}, {"a)", 1}, {"a,b % note\n c", 12},
	} {
		wantNoBody(t, c.s, form, c.at)
	}
}

func TestNames(t *testing.T) {
	long, great := word(api.MaxName), "X"+word(api.MaxName-1)
	wantRules(t, long+"("+long+","+great+").", rule(atom(long, named(long), variable(great))))
	for _, c := range []struct {
		s  string
		at int
	}{
		{"A.", 0}, {"_.", 0}, {"_a.", 0}, {" % b\n A.", 6}, {"a.B.", 2}, {word(api.MaxName + 1), 0}, {word(api.MaxName+1) + ".", 0},
		{"a(_).", 2}, {"a(b, _X).", 5}, {"a(" + word(api.MaxName+1) + ").", 2}, {"a(X" + word(api.MaxName) + ").", 2},
		{"a(%\n_", 4}, {"a:-B.", 3}, {"a:-!B.", 4}, {"a:-! B.", 5}, {"a:-b,C.", 5}, {"a:-b(_).", 5}, {great + ".", 0},
	} {
		wantNoRules(t, c.s, name, c.at)
	}
	for _, c := range []struct {
		s  string
		at int
	}{{"A", 0}, {"!A", 1}, {"a,B", 2}, {" _", 1}, {"a(_)", 2}, {"a(%\n " + word(api.MaxName+1) + ")", 5}} {
		wantNoBody(t, c.s, name, c.at)
	}
}

func TestFirstFromTheLeft(t *testing.T) {
	wantNoRules(t, "a(_ -", name, 2)
	wantNoRules(t, "a(- _", form, 2)
	wantNoRules(t, "A(b,b,b,b,b).", name, 0)
	wantNoRules(t, "a(b,b,b,_,b).", name, 8)
	wantNoRules(t, "a(b,b,b,b,b", many, 10)
	wantNoRules(t, "a(b,b,b,b _,", form, 10)
	wantNoRules(t, "a:-b,b,b,b,B,b.", name, 11)
	wantNoRules(t, "a:-b,b,b,b,b,B.", many, 13)
	wantNoRules(t, "a:-b,b,b,b,b(c,c,c,c,c),b.", many, 21)
	wantNoRules(t, strings.Repeat("a.", api.MaxRules-1)+"B. a.", name, 2*api.MaxRules-2)
	wantNoRules(t, strings.Repeat("a.", api.MaxRules-1)+"b a.", form, 2*api.MaxRules)
}

func TestManyTerms(t *testing.T) {
	b := named("b")
	wantRules(t, "a(b,b,b,b).", rule(atom("a", b, b, b, b)))
	wantBody(t, "a(b,b,b,b)", atom("a", b, b, b, b))
	for _, tail := range []string{"b).", "", " b).", " % note\n b).", ")", " )", "_)", " _)", "\n", ",", "X,X,X"} {
		wantNoRules(t, "a(b,b,b,b,"+tail, many, 10)
		wantNoBody(t, "a(b,b,b,b,"+tail, many, 10)
	}
	wantNoRules(t, "a(b,b,b,b % note\n , b).", many, 19)
	wantNoRules(t, "a. a:-c,d(X,X,X,X,X).", many, 18)
}

func TestManyAtoms(t *testing.T) {
	b := atom("b")
	wantRules(t, "a:-b,b,!b,b,b.", rule(atom("a"), b, b, not(b), b, b))
	wantBody(t, "b,b,b,b,b", b, b, b, b, b)
	for _, tail := range []string{"b.", "", " b.", " % note\n b.", ".", " .", "B", "!b", "!", " -", ","} {
		wantNoRules(t, "a:-b,b,b,b,b,"+tail, many, 13)
		wantNoBody(t, "b,b,b,b,b,"+tail, many, 10)
	}
	wantNoRules(t, "a:-b,b,b,b,b % note\n , b.", many, 22)
	wantNoBody(t, "b(c,d),b,b,b,b\n,b", many, 16)
}

func TestManyRules(t *testing.T) {
	most := strings.Repeat("a.", api.MaxRules)
	var want []api.Rule
	for range api.MaxRules {
		want = append(want, rule(atom("a")))
	}
	wantRules(t, most, want...)
	wantRules(t, most+" \n % a.", want...)
	for _, blank := range []string{"", " ", "\n", "% a.\n", " % a.\n\n  "} {
		for _, tail := range []string{"a.", "b", "a(", "B.", "-"} {
			wantNoRules(t, most+blank+tail, many, len(most+blank))
		}
	}
}

func TestMuch(t *testing.T) {
	for _, s := range []string{" ", "\n", "%", "a", "-", "a.", "%\xff", "_"} {
		long := strings.Repeat(s, api.MaxText+1)
		wantNoRules(t, long, much, 0)
		wantNoBody(t, long, much, 0)
		wantNoRules(t, long[:api.MaxText+1], much, 0)
		wantNoBody(t, long[:api.MaxText+1], much, 0)
	}
	blank := strings.Repeat(" ", api.MaxText-2)
	wantRules(t, strings.Repeat(" ", api.MaxText))
	wantRules(t, strings.Repeat("%", api.MaxText))
	wantRules(t, blank+"a.", rule(atom("a")))
	wantBody(t, " "+blank+"a", atom("a"))
	wantNoRules(t, " "+blank+"a.", much, 0)
	wantNoBody(t, "a  "+blank, much, 0)
	wantNoRules(t, blank+" a", form, api.MaxText)
	wantNoBody(t, blank+"a,", form, api.MaxText)
	wantNoRules(t, strings.Repeat("a", api.MaxText), name, 0)
	wantNoRules(t, strings.Repeat("a", 1<<20), much, 0)
}

func TestAtom(t *testing.T) {
	for _, c := range []struct {
		a    api.Atom
		want string
	}{
		{api.Atom{}, ""},
		{atom("a"), "a"},
		{api.Atom{Name: "a", Terms: []api.Term{}}, "a"},
		{not(atom("a")), "!a"},
		{atom("a", named("b")), "a(b)"},
		{atom("a", named("b"), variable("X")), "a(b,X)"},
		{not(atom("a", variable("X"), variable("Y"), named("c"))), "!a(X,Y,c)"},
		{atom("No Name", named("X"), variable("x"), named(""), named("a"), named("ä")), "No Name(X,x,,a,ä)"},
		{not(atom("", named(""))), "!()"},
	} {
		if got := Atom(c.a); got != c.want {
			t.Errorf("Atom(%v): %q comes, not %q", c.a, got, c.want)
		}
	}
}

func TestPrint(t *testing.T) {
	x := variable("X")
	for _, c := range []struct {
		p    api.Program
		want string
	}{
		{nil, ""},
		{api.Program{}, ""},
		{api.Program{{}}, ".\n"},
		{api.Program{rule(atom("a"))}, "a.\n"},
		{api.Program{{Head: atom("a"), Body: []api.Atom{}}}, "a.\n"},
		{api.Program{rule(atom("a", x), atom("b", x))}, "a(X) :- b(X).\n"},
		{api.Program{rule(atom("a", x), atom("b", x), not(atom("c")), atom("d")), rule(atom("s"))}, "a(X) :- b(X), !c, d.\ns.\n"},
		{api.Program{rule(not(atom("a")), api.Atom{}, atom("b"))}, "!a :- , b.\n"},
	} {
		if got := Print(c.p); got != c.want {
			t.Errorf("Print(%v): %q comes, not %q", c.p, got, c.want)
		}
	}
	long := strings.Repeat("a :- b.\n", 1000)
	var p api.Program
	for range 1000 {
		p = append(p, rule(atom("a"), atom("b")))
	}
	if Print(p) != long {
		t.Error("Print of many rules is not those rules")
	}
}

func TestWhatIsParsedIsPrinted(t *testing.T) {
	for _, s := range []string{
		"", "a.", "p( X , Y ) :- e(X,Y) , ! q . % x\n s.", strings.Repeat("a(B,c):-!d,e(F,F).", api.MaxRules),
	} {
		p, f := Parse(s)
		if f.Err != api.OK {
			t.Fatalf("Parse(%q): %v", s, f)
		}
		again, f := Parse(Print(p))
		if f.Err != api.OK || tell(again) != tell(p) || Print(again) != Print(p) {
			t.Errorf("Parse(Print(Parse(%q))): %v %v comes, not %v", s, again, f, p)
		}
		for _, r := range p {
			for _, a := range r.Body {
				wantBody(t, Atom(a), a)
			}
		}
	}
}

// spoil writes into all that an answer has, its spare room too.
func spoil(p api.Program) {
	for _, r := range p[:cap(p)] {
		for _, l := range [][]api.Atom{{r.Head}, r.Body} {
			for _, a := range l[:cap(l)] {
				terms := a.Terms[:cap(a.Terms)]
				for i := range terms {
					terms[i] = variable("Spoiled")
				}
			}
		}
		body := r.Body[:cap(r.Body)]
		for i := range body {
			body[i] = atom("spoiled")
		}
	}
}

func TestAnswersAreNewMemory(t *testing.T) {
	const s = "a(X,b,c):-d(X,b,c),!e(X),f. a(X,b,c):-d(X,b,c),!e(X),f. b."
	first, _ := Parse(s)
	want := tell(first)
	second, _ := Parse(s)
	spoil(second)
	if tell(first) != want {
		t.Error("two answers share memory")
	}
	for i := range first {
		third, _ := Parse(s)
		spoil(third[i : i+1 : i+1])
		for j, r := range third {
			if j != i && tell(r) != tell(first[j]) {
				t.Errorf("rules %d and %d share memory", i, j)
			}
		}
	}
	l, _ := Body("a(X,Y,Z),b(X,Y,Z)")
	_ = append(l[0].Terms, variable("Spoiled"))
	_ = append(l, atom("spoiled"))
	l[0].Terms[0] = variable("Spoiled")
	if Atom(l[1]) != "b(X,Y,Z)" {
		t.Error("two atoms share memory")
	}
}

func TestWhatIsHandedInIsOnlyRead(t *testing.T) {
	terms := []api.Term{variable("X"), named("b"), named("spare")}
	body := []api.Atom{atom("c", terms[:2]...), atom("d"), atom("spare", terms...)}
	rules := api.Program{rule(atom("a", terms[:2]...), body[:2]...), rule(atom("spare"))}
	want := tell(terms, body, rules)
	if got := Print(rules[:1]); got != "a(X,b) :- c(X,b), d.\n" {
		t.Errorf("Print: %q", got)
	}
	if got := Atom(body[0]); got != "c(X,b)" {
		t.Errorf("Atom: %q", got)
	}
	if tell(terms, body, rules) != want {
		t.Error("what was handed in is changed")
	}
}

// A machine of its own, of states and signs, tells the same of all short texts
// over all kinds of bytes as the reader does.
func TestAllShortTexts(t *testing.T) {
	const bytes = "aX_(),:-.!% \n"
	var walk func(s string, most int)
	walk = func(s string, most int) {
		compare(t, s)
		if most > 0 {
			for i := range len(bytes) {
				walk(s+bytes[i:i+1], most-1)
			}
		}
	}
	walk("", 4)
	walk("a(", 3)
	walk("a:-", 3)
	walk("a(b,b,b,b", 3)
	walk("a(b):-c,c,c,c,c", 3)
	walk("c,c,!c,c,c", 3)
	walk(strings.Repeat("a.", api.MaxRules-1), 3)
}

func compare(t *testing.T, s string) {
	p, f := Parse(s)
	if want := machine(s, atRule); f != want {
		t.Errorf("Parse(%q): %v comes, not %v", s, f, want)
	}
	if f.Err != api.OK && p != nil {
		t.Errorf("Parse(%q): %v beside %v", s, p, f)
	}
	l, f := Body(s)
	if want := machine(s, atAtom); f != want {
		t.Errorf("Body(%q): %v comes, not %v", s, f, want)
	}
	if f.Err != api.OK && l != nil {
		t.Errorf("Body(%q): %v beside %v", s, l, f)
	}
	if f.Err == api.OK {
		wantRules(t, "h:-"+s+"\n.", rule(atom("h"), l...))
	}
}

type state int

const (
	atRule state = iota
	behindHead
	behindHeadTerms
	atHeadTerm
	behindHeadTerm
	atAtom
	behindNot
	behindAtom
	behindAtomTerms
	atAtomTerm
	behindAtomTerm
)

// next is told by hand for each state: a name is n, a variable v, another word
// w, the end e.
func next(now state, sign string) (state, bool) {
	type step struct {
		now  state
		sign string
	}
	to, ok := map[step]state{
		{atRule, "n"}: behindHead, {atRule, "e"}: atRule,
		{behindHead, "("}: atHeadTerm, {behindHead, "."}: atRule, {behindHead, ":-"}: atAtom,
		{atHeadTerm, "n"}: behindHeadTerm, {atHeadTerm, "v"}: behindHeadTerm,
		{behindHeadTerm, ","}: atHeadTerm, {behindHeadTerm, ")"}: behindHeadTerms,
		{behindHeadTerms, "."}: atRule, {behindHeadTerms, ":-"}: atAtom,
		{atAtom, "!"}: behindNot, {atAtom, "n"}: behindAtom, {behindNot, "n"}: behindAtom,
		{behindAtom, "("}: atAtomTerm, {behindAtom, ","}: atAtom, {behindAtom, "."}: atRule,
		{atAtomTerm, "n"}: behindAtomTerm, {atAtomTerm, "v"}: behindAtomTerm,
		{behindAtomTerm, ","}: atAtomTerm, {behindAtomTerm, ")"}: behindAtomTerms,
		{behindAtomTerms, ","}: atAtom, {behindAtomTerms, "."}: atRule,
	}[step{now, sign}]
	return to, ok
}

func machine(s string, begin state) api.Fault {
	now, at, rules, atoms, terms := begin, 0, 0, 1, 1
	for {
		sign, from, to := nextSign(s, at)
		wantsWord := now == atRule || now == atAtom || now == behindNot || now == atHeadTerm || now == atAtomTerm
		behindBody := now == behindAtom || now == behindAtomTerms
		after, ok := next(now, sign)
		switch {
		case sign == "e" && begin == atAtom && behindBody, sign == "e" && begin == atRule && now == atRule:
			return api.Fault{}
		case now == atRule && rules == api.MaxRules:
			return api.Fault{Err: many, At: from}
		case begin == atAtom && sign == ".":
			return api.Fault{Err: form, At: from}
		case !ok && wantsWord && strings.Contains("nvw", sign):
			return api.Fault{Err: name, At: from}
		case !ok:
			return api.Fault{Err: form, At: from}
		}
		switch {
		case sign == "(":
			terms = 1
		case sign == ":-":
			atoms = 1
		case sign == ".":
			rules++
		case sign == "," && after == atAtom:
			atoms++
		case sign == ",":
			terms++
		}
		if terms > api.MaxArgs || atoms > api.MaxBody {
			return api.Fault{Err: many, At: to}
		}
		now, at = after, to
	}
}

func nextSign(s string, at int) (sign string, from, to int) {
	for at < len(s) && strings.Contains(" \n%", s[at:at+1]) {
		if s[at] == '%' {
			for at < len(s) && s[at] != '\n' {
				at++
			}
			continue
		}
		at++
	}
	to = at
	for to < len(s) && strings.Contains("abcX_", s[to:to+1]) {
		to++
	}
	switch w := s[at:to]; {
	case at == len(s):
		return "e", at, at
	case w == "" && strings.HasPrefix(s[at:], ":-"):
		return ":-", at, at + 2
	case w == "":
		return s[at : at+1], at, at + 1
	case len(w) > api.MaxName || w[0] == '_':
		return "w", at, to
	case w[0] == 'X':
		return "v", at, to
	}
	return "n", at, to
}

func TestAnswersHangOnTheTextAlone(t *testing.T) {
	for _, s := range []string{"a(b,X):-c(X).", "a(", "_", strings.Repeat("a.", 17), word(api.MaxText + 1)} {
		p, f := Parse(s)
		for range 3 {
			again, g := Parse(s)
			if g != f || !reflect.DeepEqual(again, p) {
				t.Errorf("Parse(%q) tells two things", s)
			}
		}
	}
}
