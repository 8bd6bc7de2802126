package desk

import (
	"fmt"
	"slices"
	"strings"
	"testing"

	"corollary/api"
)

func TestManyThings(t *testing.T) {
	for _, x := range []api.Do{{}, tell("a"), rules("a."), rules("a"), begin, step(1), save, back, ask("a"), prove("a")} {
		l := slices.Repeat([]api.Do{x}, api.MaxDo)
		if _, a, e := Play(l); e != ok || len(a) != api.MaxDo {
			t.Errorf("%d of %v: %d answers, %s comes", len(l), x, len(a), errName(e))
		}
		for _, n := range []int{1, 2, 1000} {
			d, a, e := Play(append(l, slices.Repeat([]api.Do{x}, n)...))
			if e != many || len(a) != 0 {
				t.Errorf("%d more of %v: %d answers, %s comes", n, x, len(a), errName(e))
			}
			wantDesk(t, d, api.Desk{})
		}
	}
	var l []play
	for i := range api.MaxDo {
		l = append(l, play{tell(fmt.Sprint("q(n", i, ")")), fmt.Sprint(i + 1)})
	}
	if d := wantPlay(t, l...); len(d.Told) != api.MaxDo {
		t.Errorf("%d facts are told", len(d.Told))
	}
}

// No list of things is long enough to tell so many: these desks were laid.
func TestManyAreTold(t *testing.T) {
	for _, c := range []struct {
		n     int
		f     string
		want  string
		after int
	}{
		{api.MaxFacts - 1, "z", "200", api.MaxFacts},
		{api.MaxFacts - 1, "q(n0000)", "199", api.MaxFacts - 1},
		{api.MaxFacts, "z", "ErrMany", api.MaxFacts},
		{api.MaxFacts, "a", "ErrMany", api.MaxFacts},
		{api.MaxFacts, "q(n0000)", "200", api.MaxFacts},
		{api.MaxFacts, "q(n0199)", "200", api.MaxFacts},
		{api.MaxFacts, "q(n0200)", "ErrMany", api.MaxFacts},
		{api.MaxFacts, "Z", "ErrName", api.MaxFacts},
		{api.MaxFacts, "q(N)", "ErrName", api.MaxFacts},
		{api.MaxFacts - 1, "Z", "ErrName", api.MaxFacts - 1},
	} {
		d := player{api.Desk{Told: count("q", c.n), Saved: raw("0 0 0 0 0")}}
		was := toldDesk(d.Desk)
		got := toldAnswer(d.do(tell(c.f)))
		if got != c.want || len(d.Told) != c.after || c.n == c.after && toldDesk(d.Desk) != was {
			t.Errorf("%s behind %d: %s comes, and %d are told", c.f, c.n, got, len(d.Told))
		}
	}
}

// plays tells n facts of a name, and other ones, from so many on.
func plays(from int, name string, n int, other ...string) []play {
	var out []play
	for _, f := range count(name, n) {
		out = append(out, play{api.Do{Kind: api.DoTell, Fact: f}, fmt.Sprint(from + len(out) + 1)})
	}
	for _, s := range other {
		out = append(out, play{tell(s), fmt.Sprint(from + len(out) + 1)})
	}
	return out
}

// As many are Known as may be, Saved, and asked for.
func TestManyAreKnown(t *testing.T) {
	text := "r(X,Y) :- q(X), q(Y)."
	l := slices.Concat(plays(0, "q", 13), plays(13, "z", 18), []play{{rules(text), "1"}, {begin, "31"}})
	size := 5 + 31*(2+1+6+1) + 169*(2+1+6+6+1)
	d := wantPlay(t, behind(l, play{step(1), "200"}, play{save, fmt.Sprint(size)}, play{step(1), "200"}, play{step(9), "200"})...)
	if len(d.Saved) != size || d.Saved[4] != api.MaxFacts || len(d.Run.Known) != api.MaxFacts || !d.Run.Done {
		t.Errorf("%d bytes come", len(d.Saved))
	}
	d = wantPlay(t, behind(l, play{step(1), "200"}, play{save, fmt.Sprint(size)}, play{begin, "31"}, play{back, "200"}, play{ask("r(X,Y), X"), "ErrName at 8"})...)
	if len(d.Run.Known) != api.MaxFacts || len(d.Run.New) != 169 || d.Run.Rounds != 1 {
		t.Errorf("%d Known, %d New come", len(d.Run.Known), len(d.Run.New))
	}
}

func TestTooManyWouldBeKnown(t *testing.T) {
	text := "r(X,Y) :- q(X), q(Y). s :- !q(no)."
	l := slices.Concat(plays(0, "q", 13), plays(13, "z", 18), []play{{rules(text), "2"}, {begin, "31"}})
	for _, n := range []int{1, 2, api.MaxSteps} {
		d := wantPlay(t, behind(l, play{save, "315"}, play{step(n), "ErrMany"}, play{step(0), "31"}, play{prove("s"), "ErrMany"})...)
		if len(d.Run.Known) != 31 || d.Run.Rounds != 0 || len(d.Saved) != 315 {
			t.Errorf("%s comes", toldDesk(d))
		}
	}
}

// 27 of them make 19683 lists, 28 make 21952.
func TestMuchInOneRound(t *testing.T) {
	three := rules("x :- q(X), q(Y), q(Z).")
	wantPlay(t, behind(plays(0, "q", 27), play{three, "1"}, play{begin, "27"}, play{step(1), "28"}, play{ask("x"), "ErrSoon"})...)
	wantPlay(t, behind(plays(0, "q", 28), play{three, "1"}, play{begin, "28"},
		play{step(1), "ErrMuch"}, play{step(0), "28"}, play{prove("x"), "ErrMuch"}, play{prove("X"), "ErrMuch"})...)
}

func TestManyLists(t *testing.T) {
	five := ask("q(V), q(W), q(X), q(Y), r(Z)")
	var l []api.Do
	for _, x := range slices.Concat(plays(0, "q", 10), plays(10, "r", 2)) {
		l = append(l, x.do)
	}
	_, a, _ := Play(append(l, begin, five))
	last := a[len(a)-1]
	if last.Err != ok || last.N != api.MaxBinds || len(last.Binds) != api.MaxBinds {
		t.Fatalf("%s, %d, and %d lists come", errName(last.Err), last.N, len(last.Binds))
	}
	if got := toldBinds(last.Binds[0]); got != "[V=n0000 W=n0000 X=n0000 Y=n0000 Z=n0000]" {
		t.Errorf("%s comes first", got)
	}
	if got := toldBinds(last.Binds[api.MaxBinds-1]); got != "[V=n0009 W=n0009 X=n0009 Y=n0009 Z=n0001]" {
		t.Errorf("%s comes last", got)
	}
	wantPlay(t, slices.Concat(plays(0, "q", 10), plays(10, "r", 3), []play{{begin, "13"}, {five, "ErrMuch"}, {ask("r(X), !q(X)"), "nothing"}})...)
}

func TestLongTexts(t *testing.T) {
	long := func(s string) string { return s + strings.Repeat(" ", api.MaxText-len(s)) }
	wantPlay(t,
		play{rules(long("a.")), "1"}, play{rules(long("a.") + " "), "ErrMuch"}, play{rules(long("A.") + " "), "ErrMuch"},
		play{begin, "nothing"}, play{step(9), "1"},
		play{ask(long("a")), "1 []"}, play{ask(long("a") + " "), "ErrMuch"}, play{ask(long("A") + " "), "ErrMuch"},
		play{rules(strings.Repeat("a. ", api.MaxRules)), "16"}, play{rules(strings.Repeat("a. ", api.MaxRules+1)), "ErrMany at 48"})
}

// b7 has 255 proofs, and b8 would have 511; mid(n29,n30) is 60 deep, and at(n30)
// would be deeper.
func TestMuchIsProved(t *testing.T) {
	two := "b1 :- b0, b0. b2 :- b1, b1. b3 :- b2, b2. b4 :- b3, b3. b5 :- b4, b4. b6 :- b5, b5. b7 :- b6, b6. b8 :- b7, b7."
	_, a, _ := Play([]api.Do{tell("b0"), rules(two), prove("b7"), prove("b8")})
	if got := toldAnswer(a[3]); got != "ErrMuch" || strings.Count(toldAnswer(a[2]), "/") != 255 {
		t.Errorf("%.100s and %s come", toldAnswer(a[2]), got)
	}
	l := []api.Do{tell("at(n0)"), rules("mid(X,Y) :- at(X), step(X,Y). at(Y) :- mid(X,Y).")}
	for i := range 30 {
		l = append(l, tell(fmt.Sprintf("step(n%d,n%d)", i, i+1)))
	}
	_, a, _ = Play(append(l, prove("mid(n29,n30)"), prove("at(n30)")))
	deep, deeper := toldAnswer(a[len(l)]), toldAnswer(a[len(l)+1])
	if deeper != "ErrMuch" || strings.Count(deep, "at(") != 30 || strings.Count(deep, "mid(") != 30 {
		t.Errorf("%.100s and %s come", deep, deeper)
	}
}

// As many rounds as may be made: these were not made by a list of things.
func TestManyRounds(t *testing.T) {
	p := parse(t, "a. b :- !a.")
	for _, c := range []struct {
		r    api.Run
		n    int
		want string
	}{
		{run("", "", 0, api.MaxSteps), 1, "ErrMany"},
		{run("", "", 0, api.MaxSteps), 0, "nothing"},
		{run("a", "", 1, api.MaxSteps-1), 1, "1"},
		{run("a", "", 0, api.MaxSteps-1), 1, "1"},
		{run("a", "", 0, api.MaxSteps-1), 2, "ErrMany"},
		{run("a", "", 0, api.MaxSteps-2), 2, "1"},
		{done(run("a", "", 2, api.MaxSteps)), api.MaxSteps, "1"},
	} {
		d := player{api.Desk{Rules: p, Running: true, Run: c.r}}
		was := toldDesk(d.Desk)
		if got := toldAnswer(d.do(step(c.n))); got != c.want || got == "ErrMany" && toldDesk(d.Desk) != was {
			t.Errorf("%d steps of %s: %s comes, not %s, or the desk is changed", c.n, toldRun(c.r), got, c.want)
		}
		wantBytes(t, p, d.Run, raw(spelt(d.Run)))
	}
}
