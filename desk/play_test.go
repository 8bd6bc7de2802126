package desk

import (
	"math"
	"slices"
	"strings"
	"testing"

	"corollary/api"
)

func tell(f string) api.Do { return api.Do{Kind: api.DoTell, Fact: list(f)[0]} }

func rules(text string) api.Do { return api.Do{Kind: api.DoRules, Text: text} }

func step(n int) api.Do { return api.Do{Kind: api.DoStep, N: n} }

func ask(text string) api.Do { return api.Do{Kind: api.DoAsk, Text: text} }

func prove(f string) api.Do { return api.Do{Kind: api.DoProve, Fact: list(f)[0]} }

var (
	begin = api.Do{Kind: api.DoBegin}
	save  = api.Do{Kind: api.DoSave}
	back  = api.Do{Kind: api.DoBack}
)

// play is something that is done, and what comes of it (see toldAnswer).
type play struct {
	do   api.Do
	want string
}

// behind lays plays behind others that go on being used.
func behind(l []play, more ...play) []play { return slices.Concat(l, more) }

// wantPlay has what came of each, however much is done behind it; what is refused
// changes nothing. It answers the desk in the end.
func wantPlay(t *testing.T, plays ...play) api.Desk {
	t.Helper()
	var l []api.Do
	var last api.Desk
	for n, x := range plays {
		l = append(l, x.do)
		d, a, e := Play(l)
		if e != ok || len(a) != n+1 {
			t.Fatalf("%v: %d answers, %s comes", l, len(a), errName(e))
		}
		for i := range a {
			if got := toldAnswer(a[i]); got != plays[i].want {
				t.Errorf("thing %d of %d, %v: %.300s comes, not %.300s", i, n+1, plays[i].do, got, plays[i].want)
			}
		}
		if a[n].Err != ok && toldDesk(d) != toldDesk(last) {
			t.Errorf("%v is refused, and yet %s comes of %s", x.do, toldDesk(d), toldDesk(last))
		}
		last = d
	}
	return last
}

func wantDesk(t *testing.T, got, want api.Desk) {
	t.Helper()
	if toldDesk(got) != toldDesk(want) {
		t.Errorf("%s comes, not %s", toldDesk(got), toldDesk(want))
	}
}

func TestNothingIsDone(t *testing.T) {
	for _, l := range [][]api.Do{nil, {}, make([]api.Do, 0, 3)} {
		d, a, e := Play(l)
		if e != ok || len(a) != 0 {
			t.Errorf("%v %s comes", a, errName(e))
		}
		wantDesk(t, d, api.Desk{})
	}
}

// Example 8.
func TestAskedBehindNineRounds(t *testing.T) {
	d := wantPlay(t,
		play{tell("a(q)"), "1"},
		play{rules("b(X) :- a(X)."), "1"},
		play{begin, "1"},
		play{step(9), "2"},
		play{ask("b(X)"), "1 [X=q]"})
	wantDesk(t, d, api.Desk{Told: list("a(q)"), Rules: parse(t, "b(X) :- a(X)."), Running: true, Run: done(all("a(q) b(q)", 1, 2))})
}

func TestNoSuchKind(t *testing.T) {
	for _, kind := range []int{0, 9, -1, 10, 11, 256, 257, math.MaxInt, math.MinInt} {
		x := api.Do{Kind: kind, N: 1, Fact: mk("e", "a", "b"), Text: "e(X,Y)"}
		wantPlay(t, play{x, "ErrKind"}, play{tell("a"), "1"}, play{begin, "1"}, play{save, "9"}, play{x, "ErrKind"}, play{back, "1"})
	}
}

func TestTell(t *testing.T) {
	d := wantPlay(t,
		play{tell("e(b,c)"), "1"},
		play{tell("e(a,b)"), "2"},
		play{tell("e(b,c)"), "2"},
		play{tell("e"), "3"},
		play{tell("0"), "4"},
		play{tell("e(a,b)"), "4"},
		play{tell("long_Name_12(a,b,c,long_Arg_012)"), "5"},
		play{tell("z"), "6"},
		play{tell("0"), "6"})
	wantDesk(t, d, api.Desk{Told: list("0 e e(a,b) e(b,c) long_Name_12(a,b,c,long_Arg_012) z")})
}

func TestTellWhatIsWrong(t *testing.T) {
	d := wantPlay(t,
		play{api.Do{Kind: api.DoTell}, "ErrName"},
		play{tell("E"), "ErrName"},
		play{tell("_e"), "ErrName"},
		play{tell("e-f"), "ErrName"},
		play{tell("longer_name13"), "ErrName"},
		play{tell("E(a,b,c,d,e)"), "ErrName"},
		play{tell("e(a,b,c,d,e)"), "ErrMany"},
		play{tell("e(a,b,c,d,E)"), "ErrMany"},
		play{tell("e(a,B)"), "ErrName"},
		play{tell("e(a,)"), "ErrName"},
		play{tell("e(a,b,c,longer_name13)"), "ErrName"},
		play{tell("e(a,b)"), "1"},
		play{tell("e(A)"), "ErrName"})
	wantDesk(t, d, api.Desk{Told: list("e(a,b)")})
}

// What is told need not go with the rules, nor with what was told: that is looked
// at where a run begins, and where something is proved.
func TestTellWhatDoesNotFit(t *testing.T) {
	d := wantPlay(t,
		play{rules("t(X) :- e(X)."), "1"},
		play{tell("e(a)"), "1"},
		play{begin, "1"},
		play{tell("e(a,b)"), "2"},
		play{begin, "ErrFit"},
		play{prove("e(a)"), "ErrFit"},
		play{prove("E"), "ErrFit"},
		play{step(9), "2"},
		play{ask("t(X)"), "1 [X=a]"},
		play{rules("t(X) :- f(X)."), "1"},
		play{begin, "2"},
		play{prove("e(a)"), "e(a)/-1"})
	wantDesk(t, d, api.Desk{Told: list("e(a) e(a,b)"), Rules: parse(t, "t(X) :- f(X)."), Running: true, Run: all("e(a) e(a,b)", 0, 0)})
}

// What is told while something Runs is not Known to it.
func TestTellWhileSomethingRuns(t *testing.T) {
	wantPlay(t,
		play{rules("t(X) :- e(X)."), "1"},
		play{tell("e(a)"), "1"},
		play{begin, "1"},
		play{tell("e(b)"), "2"},
		play{step(9), "2"},
		play{ask("t(X)"), "1 [X=a]"},
		play{prove("t(b)"), "t(b)/0[e(b)/-1]"},
		play{begin, "2"},
		play{step(9), "4"},
		play{ask("t(X)"), "2 [X=a] [X=b]"})
}

func TestRules(t *testing.T) {
	text := "t(X) :- e(X), !u(X). % note\n u(a). "
	d := wantPlay(t, play{rules(""), "nothing"}, play{rules(text), "2"})
	wantDesk(t, d, api.Desk{Rules: parse(t, text)})
	d = wantPlay(t, play{rules(text), "2"}, play{rules(" % nothing "), "nothing"})
	wantDesk(t, d, api.Desk{})
	d = wantPlay(t, play{tell("a"), "1"}, play{rules("a."), "1"}, play{rules("b. a. b."), "3"})
	wantDesk(t, d, api.Desk{Told: list("a"), Rules: parse(t, "b. a. b.")})
}

// An error of the text is told ahead of one of strata, wherever both stand.
func TestRulesThatAreWrong(t *testing.T) {
	for _, c := range []struct{ text, want string }{
		{strings.Repeat(" ", api.MaxText+1), "ErrMuch"},
		{"a :-", "ErrForm at 4"},
		{"a", "ErrForm at 1"},
		{"!a.", "ErrForm"},
		{"a. !b.", "ErrForm at 3"},
		{"a. X.", "ErrName at 3"},
		{"Big.", "ErrName"},
		{" a(b,c,d,e,f).", "ErrMany at 11"},
		{"a :- b,c,d,e,f,g.", "ErrMany at 15"},
		{strings.Repeat("a. ", api.MaxRules) + "a.", "ErrMany at 48"},
		{"a(X).", "ErrFree"},
		{"b. a(X).", "ErrFree at 1"},
		{"b. c. a :- !b(X).", "ErrFree at 2"},
		{"b. c. a :- b, b(x).", "ErrFit at 2"},
		{"b. b(x).", "ErrFit at 1"},
		{"b. a(X). b(x).", "ErrFree at 1"},
		{"b. b(x). a(X).", "ErrFit at 1"},
		{"a :- !a.", "ErrLoop"},
		{"x. y. z. a :- !b. b :- a.", "ErrLoop"},
		{"a :- !a. b(X).", "ErrFree at 1"},
		{"a(X). b", "ErrForm at 7"},
		{"a :- !a. b(X). a(c).. ", "ErrForm at 20"},
	} {
		wantPlay(t, play{rules(c.text), c.want})
		d := wantPlay(t,
			play{tell("e(a)"), "1"}, play{rules("t(X) :- e(X)."), "1"}, play{begin, "1"}, play{save, "11"}, play{step(9), "2"},
			play{rules(c.text), c.want},
			play{ask("t(X)"), "1 [X=a]"},
			play{prove("t(a)"), "t(a)/0[e(a)/-1]"})
		wantDesk(t, d, api.Desk{
			Told: list("e(a)"), Rules: parse(t, "t(X) :- e(X)."), Running: true, Run: done(all("e(a) t(a)", 1, 2)),
			Saved: raw("0 0 0 0 1 1 'e 1 1 'a 1"),
		})
	}
}

// Even the same rules end what Runs, and what is Saved.
func TestNewRulesEndWhatRuns(t *testing.T) {
	for _, text := range []string{"t(X) :- e(X).", "t(X) :- e(X). t(b).", "", "e(a)."} {
		n := "1"
		if p := parse(t, text); len(p) != 1 {
			n = toldAnswer(api.Answer{N: len(p)})
		}
		d := wantPlay(t,
			play{tell("e(a)"), "1"}, play{rules("t(X) :- e(X)."), "1"}, play{begin, "1"}, play{save, "11"}, play{step(9), "2"},
			play{rules(text), n},
			play{step(1), "ErrSoon"},
			play{save, "ErrSoon"},
			play{ask("e(X)"), "ErrSoon"},
			play{back, "ErrNone"})
		wantDesk(t, d, api.Desk{Told: list("e(a)"), Rules: parse(t, text)})
		d = wantPlay(t,
			play{tell("e(a)"), "1"}, play{rules("t(X) :- e(X)."), "1"}, play{begin, "1"}, play{save, "11"},
			play{rules(text), n},
			play{begin, "1"},
			play{back, "ErrNone"},
			play{prove("e(a)"), "e(a)/-1"})
		if !d.Running || told(d.Run.Known) != "e(a)" || len(d.Saved) != 0 {
			t.Errorf("%s comes", toldDesk(d))
		}
	}
}

func TestBegin(t *testing.T) {
	wantDesk(t, wantPlay(t, play{begin, "nothing"}), api.Desk{Running: true, Run: done(api.Run{})})
	d := wantPlay(t, play{rules("a."), "1"}, play{begin, "nothing"})
	wantDesk(t, d, api.Desk{Rules: parse(t, "a."), Running: true})
	d = wantPlay(t, play{tell("b"), "1"}, play{tell("a"), "2"}, play{rules("a."), "1"}, play{begin, "2"})
	wantDesk(t, d, api.Desk{Told: list("a b"), Rules: parse(t, "a."), Running: true, Run: all("a b", 0, 0)})
	d = wantPlay(t, play{rules("b."), "1"}, play{begin, "nothing"}, play{save, "5"}, play{step(1), "1"}, play{tell("a"), "1"}, play{begin, "1"})
	wantDesk(t, d, api.Desk{Told: list("a"), Rules: parse(t, "b."), Running: true, Run: all("a", 0, 0), Saved: raw("0 0 0 0 0")})
}

// Begin that is refused leaves what Runs, and what is Saved.
func TestBeginIsRefused(t *testing.T) {
	d := wantPlay(t, play{rules("t(X) :- e(X)."), "1"}, play{tell("e"), "1"}, play{begin, "ErrFit"}, play{step(1), "ErrSoon"})
	wantDesk(t, d, api.Desk{Told: list("e"), Rules: parse(t, "t(X) :- e(X).")})
	d = wantPlay(t,
		play{rules("t(X) :- e(X)."), "1"}, play{tell("e(a)"), "1"}, play{begin, "1"}, play{save, "11"}, play{step(1), "2"},
		play{tell("t(a,b)"), "2"}, play{begin, "ErrFit"})
	wantDesk(t, d, api.Desk{
		Told: list("e(a) t(a,b)"), Rules: parse(t, "t(X) :- e(X)."), Running: true, Run: run("e(a) t(a)", "t(a)", 0, 1),
		Saved: raw("0 0 0 0 1 1 'e 1 1 'a 1"),
	})
}

func TestStep(t *testing.T) {
	text := "t(X,Y) :- e(X,Y). t(X,Z) :- t(X,Y), e(Y,Z). u(X) :- v(X), !t(a,X)."
	before := []play{
		{tell("e(a,b)"), "1"}, {tell("e(b,c)"), "2"}, {tell("v(a)"), "3"}, {tell("v(c)"), "4"}, {rules(text), "3"}, {begin, "4"},
	}
	first := "e(a,b) e(b,c) t(a,b) t(b,c) v(a) v(c)"
	then := "e(a,b) e(b,c) t(a,b) t(a,c) t(b,c) v(a) v(c)"
	last := "e(a,b) e(b,c) t(a,b) t(a,c) t(b,c) u(a) v(a) v(c)"
	rounds := []api.Run{
		all("e(a,b) e(b,c) v(a) v(c)", 0, 0),
		run(first, "t(a,b) t(b,c)", 0, 1),
		run(then, "t(a,c)", 0, 2),
		all(then, 1, 3),
		run(last, "u(a)", 1, 4),
		done(all(last, 2, 5)),
	}
	known := []string{"4", "6", "7", "7", "8", "8", "8", "8"}
	for n := range 8 {
		want := api.Desk{Told: list("e(a,b) e(b,c) v(a) v(c)"), Rules: parse(t, text), Running: true, Run: rounds[min(n, 5)]}
		wantDesk(t, wantPlay(t, behind(before, play{step(n), known[n]})...), want)
		l := before
		for i := range n {
			l = behind(l, play{step(1), known[i+1]})
		}
		wantDesk(t, wantPlay(t, l...), want)
		wantDesk(t, wantPlay(t, behind(l, play{step(0), known[n]})...), want)
		want.Run = rounds[5]
		wantDesk(t, wantPlay(t, behind(l, play{step(api.MaxSteps), "8"})...), want)
	}
}

func TestStepIsRefused(t *testing.T) {
	for _, n := range []int{0, 1, -1, api.MaxSteps, api.MaxSteps + 1, math.MinInt, math.MaxInt} {
		wantDesk(t, wantPlay(t, play{step(n), "ErrSoon"}), api.Desk{})
	}
	for _, n := range []int{-1, api.MaxSteps + 1, math.MinInt, math.MaxInt} {
		d := wantPlay(t,
			play{rules("t(X) :- e(X)."), "1"}, play{tell("e(a)"), "1"}, play{begin, "1"}, play{step(1), "2"}, play{step(n), "ErrRange"})
		wantDesk(t, d, api.Desk{
			Told: list("e(a)"), Rules: parse(t, "t(X) :- e(X)."), Running: true, Run: run("e(a) t(a)", "t(a)", 0, 1),
		})
		wantPlay(t, play{begin, "nothing"}, play{step(n), "ErrRange"})
	}
}

func TestSaveAndBack(t *testing.T) {
	text := "t(X) :- e(X). u(X) :- t(X)."
	first, then := raw("0 0 0 0 1 1 'e 1 1 'a 1"), raw("0 0 1 0 2 1 'e 1 1 'a 1 't 1 1 'a 0 1")
	before := []play{{tell("e(a)"), "1"}, {rules(text), "2"}, {begin, "1"}, {save, "11"}, {step(1), "2"}}
	want := api.Desk{Told: list("e(a)"), Rules: parse(t, text), Running: true, Run: run("e(a) t(a)", "t(a)", 0, 1), Saved: first}
	wantDesk(t, wantPlay(t, before...), want)
	want.Run = all("e(a)", 0, 0)
	wantDesk(t, wantPlay(t, behind(before, play{back, "1"})...), want)
	wantDesk(t, wantPlay(t, behind(before, play{step(9), "3"}, play{back, "1"}, play{back, "1"})...), want)
	want.Run, want.Saved = run("e(a) t(a)", "t(a)", 0, 1), then
	wantDesk(t, wantPlay(t, behind(before, play{save, "17"}, play{step(9), "3"}, play{back, "2"})...), want)
	wantDesk(t, wantPlay(t, behind(before, play{back, "1"}, play{step(1), "2"}, play{save, "17"})...), want)
	want.Run = done(all("e(a) t(a) u(a)", 1, 3))
	wantDesk(t, wantPlay(t, behind(before, play{save, "17"}, play{back, "2"}, play{step(9), "3"})...), want)
	want.Saved = raw("1 0 3 1 3 1 'e 1 1 'a 1 't 1 1 'a 1 'u 1 1 'a 1 1 1")
	wantDesk(t, wantPlay(t, behind(before, play{step(9), "3"}, play{save, "23"}, play{begin, "1"}, play{back, "3"}, play{ask("u(X)"), "1 [X=a]"})...), want)
}

func TestSaveAndBackAreRefused(t *testing.T) {
	d := wantPlay(t,
		play{save, "ErrSoon"}, play{back, "ErrNone"}, play{tell("e(a)"), "1"}, play{rules("t(X) :- e(X)."), "1"},
		play{save, "ErrSoon"}, play{back, "ErrNone"}, play{begin, "1"}, play{back, "ErrNone"}, play{step(1), "2"}, play{back, "ErrNone"})
	wantDesk(t, d, api.Desk{Told: list("e(a)"), Rules: parse(t, "t(X) :- e(X)."), Running: true, Run: run("e(a) t(a)", "t(a)", 0, 1)})
}

// No list of things comes to these desks: their errors are Save's and Load's.
func TestSaveAndBackOfWrongDesks(t *testing.T) {
	for _, c := range wrongRuns() {
		d := player{api.Desk{Rules: parse(t, twoStrata), Running: true, Run: c.r, Saved: raw("0 0 0 0 0")}}
		was := toldDesk(d.Desk)
		for _, x := range []api.Do{save, step(1)} {
			if got := toldAnswer(d.do(x)); got != errName(c.err) || toldDesk(d.Desk) != was {
				t.Errorf("%s comes, not %s, or the desk is changed", got, errName(c.err))
			}
		}
	}
	for b, err := range map[string]api.Errno{"0": form, "0 0 0 2 0": form, "3 0 0 0 0": rang, "0 0 0 0 1 1 'e 0 1": fit, "0 0 0 0 1 1 'E 0 1": name} {
		d := player{api.Desk{Rules: parse(t, twoStrata), Running: true, Run: all("z", 0, 0), Saved: raw(b)}}
		was := toldDesk(d.Desk)
		if got := toldAnswer(d.do(back)); got != errName(err) || toldDesk(d.Desk) != was {
			t.Errorf("%s: %s comes, not %s, or the desk is changed", b, got, errName(err))
		}
	}
}

func TestAsk(t *testing.T) {
	before := []play{
		{tell("e(a,b)"), "1"}, {tell("e(b,c)"), "2"}, {tell("e(c,c)"), "3"}, {rules("u(X) :- e(X,Y), !e(Y,Y)."), "1"}, {begin, "3"}, {step(9), "4"},
	}
	for _, c := range []struct{ text, want string }{
		{"e(X,Y)", "3 [X=a Y=b] [X=b Y=c] [X=c Y=c]"},
		{"e(Y,X)", "3 [X=b Y=a] [X=c Y=b] [X=c Y=c]"},
		{"e(X,X)", "1 [X=c]"},
		{"e(X,Y), e(Y,Z), !e(Z,X)", "2 [X=a Y=b Z=c] [X=b Y=c Z=c]"},
		{"u(X)", "1 [X=a]"},
		{"e(X,Y), !u(X)", "2 [X=b Y=c] [X=c Y=c]"},
		{"e(a,b)", "1 []"},
		{"!e(a,c)", "1 []"},
		{"e(a,c)", "nothing"},
		{"!e(a,b)", "nothing"},
		{"e(d,X)", "nothing"},
		{"e(X)", "nothing"},
		{"z(X)", "nothing"},
		{" e ( a , X ) % note", "1 [X=b]"},
	} {
		d := wantPlay(t, behind(before, play{ask(c.text), c.want})...)
		wantDesk(t, d, wantPlay(t, before...))
	}
}

// wrongBodies have errors of the text, and then of All.
var wrongBodies = []struct{ text, want string }{
	{"", "ErrForm"},
	{"t(X", "ErrForm at 3"},
	{"e(X,Y).", "ErrForm at 6"},
	{"  ,", "ErrForm at 2"},
	{"e, X(a)", "ErrName at 3"},
	{"e(_a)", "ErrName at 2"},
	{"e(a,b,c,d,e)", "ErrMany at 10"},
	{"a,b,c,d,e,f", "ErrMany at 10"},
	{strings.Repeat(" ", api.MaxText) + "a", "ErrMuch"},
	{"!e(X), t(Y", "ErrForm at 10"},
}

func TestAskIsRefused(t *testing.T) {
	running := []play{{tell("e(a)"), "1"}, {rules("t(X) :- e(X)."), "1"}, {begin, "1"}}
	over := behind(running, play{step(9), "2"})
	for _, c := range wrongBodies {
		for _, l := range [][]play{nil, running[:2], running, over} {
			wantPlay(t, behind(l, play{ask(c.text), c.want})...)
		}
	}
	for _, text := range []string{"e(X)", "z", "!e(X)", "e(X), !t(Y)"} {
		for _, l := range [][]play{nil, running[:2], running, behind(running, play{step(1), "2"})} {
			wantPlay(t, behind(l, play{ask(text), "ErrSoon"})...)
		}
	}
	wantPlay(t, behind(over, play{ask("!e(X)"), "ErrFree"}, play{ask("t(Y), e(X), !z(Y,Z)"), "ErrFree"})...)
	wantPlay(t, behind(over, play{begin, "1"}, play{ask("e(X)"), "ErrSoon"})...)
	wantPlay(t, play{begin, "nothing"}, play{ask("a"), "nothing"}, play{ask("!a"), "1 []"}, play{ask("!a(X)"), "ErrFree"})
}

func TestProve(t *testing.T) {
	text := "t(X,Y) :- e(X,Y). t(X,Z) :- t(X,Y), e(Y,Z). u(X) :- e(X,Y), !t(Y,c)."
	d := wantPlay(t,
		play{prove("e(a,b)"), "ErrNone"},
		play{prove("E"), "ErrName"},
		play{tell("e(a,b)"), "1"},
		play{prove("e(a,b)"), "e(a,b)/-1"},
		play{tell("e(b,c)"), "2"},
		play{prove("t(a,c)"), "ErrNone"},
		play{rules(text), "3"},
		play{prove("t(a,c)"), "t(a,c)/1[t(a,b)/0[e(a,b)/-1] e(b,c)/-1]"},
		play{prove("u(b)"), "u(b)/2[e(b,c)/-1]"},
		play{prove("u(a)"), "ErrNone"},
		play{prove("e(a,b)"), "e(a,b)/-1"},
		play{prove("t"), "ErrNone"},
		play{prove("T"), "ErrName"},
		play{prove("t(a,b,c,d,e)"), "ErrMany"},
		play{prove("t(a,b,c,d,E)"), "ErrMany"},
		play{prove("t(a,B)"), "ErrName"},
		play{api.Do{Kind: api.DoProve}, "ErrName"},
		play{tell("t(a)"), "3"},
		play{prove("T"), "ErrFit"},
		play{prove("e(a,b)"), "ErrFit"})
	wantDesk(t, d, api.Desk{Told: list("e(a,b) e(b,c) t(a)"), Rules: parse(t, text)})
	wantPlay(t, play{rules("a :- !b."), "1"}, play{prove("a"), "a/0"}, play{prove("b"), "ErrNone"}, play{tell("b"), "1"}, play{prove("a"), "ErrNone"})
}

// Nothing hangs on the fields that a kind has not (Z5).
func TestOtherFieldsMeanNothing(t *testing.T) {
	plain := []api.Do{
		tell("e(a)"), rules("t(X) :- e(X)."), begin, step(1), save, step(9), ask("t(X)"), prove("t(a)"), back, step(0), {}, {Kind: 9},
	}
	d, wanted, _ := Play(plain)
	for _, f := range []api.Fact{{}, mk("z"), mk("E", "", "")} {
		for _, text := range []string{"", "a.", "t(X", strings.Repeat("x", 5000)} {
			for _, n := range []int{0, 1, -1, math.MaxInt} {
				var l []api.Do
				for _, x := range plain {
					full := api.Do{Kind: x.Kind, N: n, Fact: f, Text: text}
					switch x.Kind {
					case api.DoTell, api.DoProve:
						full.Fact = x.Fact
					case api.DoRules, api.DoAsk:
						full.Text = x.Text
					case api.DoStep:
						full.N = x.N
					}
					l = append(l, full)
				}
				same, a, e := Play(l)
				wantDesk(t, same, d)
				for i := range wanted {
					if e != ok || toldAnswer(a[i]) != toldAnswer(wanted[i]) {
						t.Errorf("%v: %s comes, not %s", l[i], toldAnswer(a[i]), toldAnswer(wanted[i]))
					}
				}
			}
		}
	}
}
