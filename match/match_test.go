package match

import (
	"fmt"
	"strconv"
	"testing"

	"corollary/api"
	"corollary/syntax"
)

func variable(s string) api.Term { return api.Term{Var: true, Name: s} }

func named(s string) api.Term { return api.Term{Name: s} }

func atom(s string, terms ...api.Term) api.Atom { return api.Atom{Name: s, Terms: terms} }

func not(a api.Atom) api.Atom {
	a.Not = true
	return a
}

func mk(name string, args ...string) api.Fact { return api.Fact{Name: name, Args: args} }

// binds has pairs: a variable, and what it stands for.
func binds(pairs ...string) []api.Bind {
	var out []api.Bind
	for i := 0; i < len(pairs); i += 2 {
		out = append(out, api.Bind{Var: pairs[i], Name: pairs[i+1]})
	}
	return out
}

func parse(t *testing.T, s string) []api.Atom {
	t.Helper()
	if s == "" {
		return nil
	}
	l, f := syntax.Body(s)
	if f.Err != api.OK {
		t.Fatalf("Body(%q): %v", s, f)
	}
	return l
}

// tell tells nil and empty lists the same (Z3), and all else apart.
func tell(l ...any) string { return fmt.Sprintf("%+q", l) }

func wantGet(t *testing.T, l []api.Bind, v, want string, told bool) {
	t.Helper()
	if got, ok := Get(l, v); got != want || ok != told {
		t.Errorf("Get(%q, %q): %q %v comes, not %q %v", l, v, got, ok, want, told)
	}
}

func TestGet(t *testing.T) {
	l := binds("X", "a", "Y", "b", "X", "c", "Z", "a", "Y", "b")
	wantGet(t, l, "X", "a", true)
	wantGet(t, l, "Y", "b", true)
	wantGet(t, l, "Z", "a", true)
	wantGet(t, l[1:], "X", "c", true)
	wantGet(t, l[1:2], "X", "", false)
	wantGet(t, l, "a", "", false)
	wantGet(t, l, "x", "", false)
	wantGet(t, l, "XX", "", false)
	wantGet(t, l, "", "", false)
	wantGet(t, nil, "X", "", false)
	wantGet(t, []api.Bind{}, "", "", false)
}

func TestGetOfWhatNeverWasAText(t *testing.T) {
	wantGet(t, binds("", "a", "", "b"), "", "a", true)
	wantGet(t, binds("X", "", "X", "b"), "X", "", true)
	wantGet(t, binds("", ""), "", "", true)
	wantGet(t, binds("a", "X", "X", "Y"), "a", "X", true)
	wantGet(t, binds("\xff", "\x00ä"), "\xff", "\x00ä", true)
	wantGet(t, binds("\xff", "a"), "\xfe", "", false)
}

func wantFill(t *testing.T, a api.Atom, l []api.Bind, want api.Fact) {
	t.Helper()
	if got, ok := Fill(a, l); !ok || tell(got) != tell(want) {
		t.Errorf("Fill(%v, %q): %q %v comes, not %q", a, l, got, ok, want)
	}
}

func wantNoFill(t *testing.T, a api.Atom, l []api.Bind) {
	t.Helper()
	if got, ok := Fill(a, l); ok || got.Name != "" || len(got.Args) != 0 {
		t.Errorf("Fill(%v, %q): %q %v comes, and nothing should", a, l, got, ok)
	}
}

func TestFill(t *testing.T) {
	x, y, a, b := variable("X"), variable("Y"), named("a"), named("b")
	l := binds("X", "p", "Y", "q", "X", "r")
	wantFill(t, atom("e"), l, mk("e"))
	wantFill(t, atom("e"), nil, mk("e"))
	wantFill(t, api.Atom{Name: "e", Terms: []api.Term{}}, []api.Bind{}, mk("e"))
	wantFill(t, atom("e", a, b, a), l, mk("e", "a", "b", "a"))
	wantFill(t, atom("e", b, a), nil, mk("e", "b", "a"))
	wantFill(t, atom("e", x), l, mk("e", "p"))
	wantFill(t, atom("e", x), l[1:], mk("e", "r"))
	wantFill(t, atom("e", y, x, y, a), l, mk("e", "q", "p", "q", "a"))
	wantFill(t, not(atom("e", x, a)), l, mk("e", "p", "a"))
}

func TestFillThatIsToldNothing(t *testing.T) {
	x, y, a := variable("X"), variable("Y"), named("a")
	wantNoFill(t, atom("e", x), nil)
	wantNoFill(t, atom("e", x), []api.Bind{})
	wantNoFill(t, atom("e", x), binds("Y", "X"))
	wantNoFill(t, atom("e", a, x, y), binds("X", "a"))
	wantNoFill(t, atom("e", y, x, a), binds("X", "a"))
	wantNoFill(t, not(atom("e", x)), binds("Y", "a"))
	wantNoFill(t, atom("e", variable("a"), a), binds("X", "a"))
}

func TestFillOfWhatNeverWasAText(t *testing.T) {
	wantFill(t, api.Atom{}, nil, api.Fact{})
	wantFill(t, not(api.Atom{}), binds("X", "a"), api.Fact{})
	wantFill(t, atom("No name", named("X"), variable("x"), named("")), binds("X", "a", "x", "B"), mk("No name", "X", "B", ""))
	wantFill(t, atom("", variable("")), binds("", ""), mk("", ""))
	wantFill(t, atom("X", variable("X")), binds("X", ""), mk("X", ""))
	wantFill(t, atom("\xff", variable("ä"), named("ä")), binds("ä", "\x00"), mk("\xff", "\x00", "ä"))
	wantNoFill(t, atom("", named(""), variable("")), binds("X", ""))
	wantFill(t, atom("e", make([]api.Term, 1000)...), nil, mk("e", make([]string, 1000)...))
}

func wantMeet(t *testing.T, a api.Atom, f api.Fact, l []api.Bind, want ...string) {
	t.Helper()
	if got, ok := Meet(a, f, l); !ok || tell(got) != tell(binds(want...)) {
		t.Errorf("Meet(%v, %q, %q): %q %v comes, not %q", a, f, l, got, ok, want)
	}
}

func wantNoMeet(t *testing.T, a api.Atom, f api.Fact, l []api.Bind) {
	t.Helper()
	if got, ok := Meet(a, f, l); ok || len(got) != 0 {
		t.Errorf("Meet(%v, %q, %q): %q %v comes, and nothing should", a, f, l, got, ok)
	}
}

func TestMeet(t *testing.T) {
	x, y, a, b := variable("X"), variable("Y"), named("a"), named("b")
	wantMeet(t, atom("s"), mk("s"), nil)
	wantMeet(t, atom("s"), api.Fact{Name: "s", Args: []string{}}, []api.Bind{})
	wantMeet(t, atom("s"), mk("s"), binds("X", "a"), "X", "a")
	wantMeet(t, atom("e", a, b), mk("e", "a", "b"), nil)
	wantMeet(t, atom("e", a, b), mk("e", "a", "b"), binds("X", "c"), "X", "c")
	wantMeet(t, atom("e", x, y), mk("e", "a", "b"), nil, "X", "a", "Y", "b")
	wantMeet(t, atom("e", x, a), mk("e", "a", "a"), nil, "X", "a")
	wantMeet(t, atom("e", x, x), mk("e", "a", "a"), nil, "X", "a")
	wantMeet(t, atom("e", x, y, x, y), mk("e", "a", "b", "a", "b"), nil, "X", "a", "Y", "b")
	wantMeet(t, atom("e", x, y), mk("e", "a", "b"), binds("X", "a"), "X", "a", "Y", "b")
	wantMeet(t, atom("e", x, x), mk("e", "a", "a"), binds("X", "a"), "X", "a")
	wantMeet(t, atom("e", x, y), mk("e", "a", "a"), nil, "X", "a", "Y", "a")
	wantMeet(t, not(atom("e", x)), mk("e", "a"), nil, "X", "a")
}

func TestMeetPutsBehindInTurn(t *testing.T) {
	x, y, z, a := variable("X"), variable("Y"), variable("Z"), named("a")
	wantMeet(t, atom("e", z, a, x, y), mk("e", "1", "a", "2", "0"), nil, "Z", "1", "X", "2", "Y", "0")
	wantMeet(t, atom("e", y, x, y, z), mk("e", "2", "1", "2", "0"), nil, "Y", "2", "X", "1", "Z", "0")
	wantMeet(t, atom("e", z, y), mk("e", "b", "a"), binds("X", "c"), "X", "c", "Z", "b", "Y", "a")
	wantMeet(t, atom("e", y, z, x), mk("e", "b", "a", "c"), binds("Z", "a"), "Z", "a", "Y", "b", "X", "c")
	wantMeet(t, atom("e", x), mk("e", "a"), binds("Y", "b", "Y", "a", "W", "c", "Y", "b"), "Y", "b", "Y", "a", "W", "c", "Y", "b", "X", "a")
}

func TestMeetHeedsTheFirstOfTwo(t *testing.T) {
	x, y := variable("X"), variable("Y")
	l := binds("X", "a", "Y", "b", "X", "c")
	wantMeet(t, atom("e", x), mk("e", "a"), l, "X", "a", "Y", "b", "X", "c")
	wantNoMeet(t, atom("e", x), mk("e", "c"), l)
	wantMeet(t, atom("e", x, y), mk("e", "c", "b"), l[1:], "Y", "b", "X", "c")
	wantNoMeet(t, atom("e", x, x), mk("e", "a", "c"), l)
}

func TestNoMeet(t *testing.T) {
	x, y, a := variable("X"), variable("Y"), named("a")
	l := binds("X", "a")
	wantNoMeet(t, atom("e"), mk("f"), l)
	wantNoMeet(t, atom("e"), mk("ee"), nil)
	wantNoMeet(t, atom("e", x), mk("f", "a"), l)
	wantNoMeet(t, atom("e", x), mk("e"), nil)
	wantNoMeet(t, atom("e"), mk("e", "a"), nil)
	wantNoMeet(t, atom("e", x), mk("e", "a", "a"), l)
	wantNoMeet(t, atom("e", x, x), mk("e", "a"), l)
	wantNoMeet(t, atom("e", a), mk("e", "b"), l)
	wantNoMeet(t, atom("e", a, a), mk("e", "a", "b"), nil)
	wantNoMeet(t, atom("e", a, a), mk("e", "b", "a"), nil)
	wantNoMeet(t, atom("e", x), mk("e", "b"), l)
	wantNoMeet(t, atom("e", x, x), mk("e", "a", "b"), nil)
	wantNoMeet(t, atom("e", x, y, x), mk("e", "a", "b", "b"), nil)
	wantNoMeet(t, atom("e", y, a), mk("e", "a", "b"), l)
	wantNoMeet(t, atom("e", y, x), mk("e", "a", "b"), l)
	wantNoMeet(t, not(atom("e", a)), mk("e", "b"), nil)
}

func TestMeetOfWhatNeverWasAText(t *testing.T) {
	x := variable("X")
	wantMeet(t, api.Atom{}, api.Fact{}, nil)
	wantMeet(t, not(api.Atom{}), api.Fact{}, binds("", ""), "", "")
	wantNoMeet(t, api.Atom{}, mk("", ""), nil)
	wantMeet(t, atom("No name", variable("")), mk("No name", ""), nil, "", "")
	wantMeet(t, atom("", named("")), mk("", ""), nil)
	wantMeet(t, atom("X", x, named("X")), mk("X", "Y", "X"), nil, "X", "Y")
	wantMeet(t, atom("e", named("X"), x), mk("e", "X", "a"), binds("X", "a"), "X", "a")
	wantNoMeet(t, atom("e", named("X")), mk("e", "a"), binds("X", "a"))
	wantMeet(t, atom("e", x), mk("e", ""), binds("X", ""), "X", "")
	wantNoMeet(t, atom("e", x), mk("e", "a"), binds("X", "", "X", "a"))
	wantNoMeet(t, atom("e", x, x), mk("e", "", "a"), nil)
	wantMeet(t, atom("e", variable("a"), named("a")), mk("e", "\xff", "a"), nil, "a", "\xff")
	wantMeet(t, atom("e", x, x, x, x, x, x), mk("e", "B c", "B c", "B c", "B c", "B c", "B c"), nil, "X", "B c")
	wantNoMeet(t, atom("e", x, x, x, x, x, x), mk("e", "a", "a", "a", "a", "a", "b"), nil)
}

func TestMeetAndFillOfManyTerms(t *testing.T) {
	var a api.Atom
	var f api.Fact
	var want []string
	for i := range 2000 {
		s := strconv.Itoa(i)
		a.Terms = append(a.Terms, variable("V"+s), variable("V0"))
		f.Args = append(f.Args, s, "0")
		want = append(want, "V"+s, s)
	}
	wantMeet(t, a, f, nil, want...)
	wantFill(t, a, binds(want...), f)
	f.Args[len(f.Args)-1] = "1"
	wantNoMeet(t, a, f, nil)
}

// someAtoms, someFacts and someBinds are small, and all that can be made of
// some terms, some words, and some variables.
func someAtoms() []api.Atom {
	terms := []api.Term{variable("X"), variable("Y"), variable("a"), named("a"), named("X")}
	out := []api.Atom{atom("e"), atom("f")}
	for _, s := range terms {
		out = append(out, atom("e", s))
		for _, t := range terms {
			out = append(out, atom("e", s, t), not(atom("e", s, t)))
			for _, u := range terms {
				out = append(out, atom("e", s, t, u))
			}
		}
	}
	return out
}

func someFacts() []api.Fact {
	words := []string{"a", "b", "X"}
	out := []api.Fact{mk("e"), mk("f"), mk("f", "a")}
	for _, s := range words {
		out = append(out, mk("e", s))
		for _, t := range words {
			out = append(out, mk("e", s, t))
			for _, u := range words {
				out = append(out, mk("e", s, t, u))
			}
		}
	}
	return out
}

func someBinds() [][]api.Bind {
	out := [][]api.Bind{nil}
	for _, v := range []string{"X", "Y", "a"} {
		for _, s := range []string{"a", "b", "X"} {
			out = append(out, binds(v, s), binds(v, s, "X", "a"), binds("Y", "b", v, s), binds("Z", "c", v, s, "Z", "a"))
		}
	}
	return out
}

// What is met, and filled with what came of it, is the fact; and nothing was put
// there that need not be.
func TestMeetThenFill(t *testing.T) {
	for _, a := range someAtoms() {
		for _, f := range someFacts() {
			for _, l := range someBinds() {
				compareMeet(t, a, f, l)
			}
		}
	}
}

func compareMeet(t *testing.T, a api.Atom, f api.Fact, l []api.Bind) {
	t.Helper()
	got, ok := Meet(a, f, l)
	want, could := triedMeet(a, f, l)
	if ok != could || tell(got) != tell(want) {
		t.Fatalf("Meet(%v, %q, %q): %q %v comes, not %q %v", a, f, l, got, ok, want, could)
	}
	if back, filled := Fill(a, got); ok && (!filled || tell(back) != tell(f)) {
		t.Fatalf("Fill(%v, %q): %q %v comes, not %q", a, got, back, filled, f)
	}
}

// triedMeet tells l's variables, and then the fact's words, by a map, and asks
// behind that whether all fits.
func triedMeet(a api.Atom, f api.Fact, l []api.Bind) ([]api.Bind, bool) {
	if a.Name != f.Name || len(a.Terms) != len(f.Args) {
		return nil, false
	}
	stands := map[string]string{}
	for i := len(l) - 1; i >= 0; i-- {
		stands[l[i].Var] = l[i].Name
	}
	out := append([]api.Bind(nil), l...)
	for i, t := range a.Terms {
		if _, told := stands[t.Name]; t.Var && !told {
			stands[t.Name] = f.Args[i]
			out = append(out, api.Bind{Var: t.Name, Name: f.Args[i]})
		}
	}
	for i, t := range a.Terms {
		if t.Var && stands[t.Name] != f.Args[i] || !t.Var && t.Name != f.Args[i] {
			return nil, false
		}
	}
	return out, true
}
