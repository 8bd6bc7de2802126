package desk

import (
	"bytes"
	"fmt"
	"strings"
	"testing"

	"corollary/api"
	"corollary/fact"
	"corollary/round"
)

// wantBytes: Save tells these bytes, and Load the run that they are of.
func wantBytes(t *testing.T, p api.Program, r api.Run, b []byte) {
	t.Helper()
	got, e := Save(p, r)
	if !bytes.Equal(got, b) || e != ok {
		t.Errorf("Save(%v, %.300s): %.300s %s comes, not %.300s", p, toldRun(r), fmt.Sprint(got), errName(e), fmt.Sprint(b))
	}
	wantLoad(t, p, b, r, ok)
}

func wantLoad(t *testing.T, p api.Program, b []byte, r api.Run, err api.Errno) {
	t.Helper()
	if got, e := Load(p, b); toldRun(got) != toldRun(r) || e != err {
		t.Errorf("Load(%v, %.300s): %.300s %s comes, not %.300s %s", p, fmt.Sprint(b), toldRun(got), errName(e), toldRun(r), errName(err))
	}
}

func wantLoadError(t *testing.T, p api.Program, b []byte, err api.Errno) {
	t.Helper()
	wantLoad(t, p, b, api.Run{}, err)
}

// wantSaveError: nothing comes beside the error (Z4).
func wantSaveError(t *testing.T, p api.Program, r api.Run, err api.Errno) {
	t.Helper()
	if got, e := Save(p, r); len(got) != 0 || e != err {
		t.Errorf("Save(%v, %.300s): %.300s %s comes, not %s", p, toldRun(r), fmt.Sprint(got), errName(e), errName(err))
	}
}

// twoStrata has strata 0 and 1, and is Done in 2.
const twoStrata = "t(X,Y) :- e(X,Y). u(X) :- e(X,Y), !t(Y,c)."

// sixteen has as many strata as there may be.
const sixteen = "b :- !a. c :- !b. d :- !c. e :- !d. f :- !e. g :- !f. h :- !g. i :- !h. j :- !i. k :- !j. l :- !k. m :- !l. n :- !m. o :- !n. p :- !o. q :- !p."

func TestSaveByteByByte(t *testing.T) {
	for _, c := range []struct {
		rules string
		r     api.Run
		b     string
	}{
		{"", done(run("", "", 0, 0)), "0 0 0 1 0"},
		{"a.", run("", "", 0, 0), "0 0 0 0 0"},
		{"a.", done(run("", "", 1, 7)), "1 0 7 1 0"},
		{"a.", all("a", 0, 1), "0 0 1 0 1 1 'a 0 1"},
		{"a.", run("a", "", 0, 1), "0 0 1 0 1 1 'a 0 0"},
		{"a.", all("a b", 0, 1), "0 0 1 0 2 1 'a 0 1 'b 0 1 1"},
		{"a.", run("a b c", "a c", 0, 1), "0 0 1 0 3 1 'a 0 1 'b 0 1 'c 0 1 0 1"},
		{"a.", run("a b c", "b", 0, 1), "0 0 1 0 3 1 'a 0 1 'b 0 1 'c 0 0 1 0"},
		{twoStrata, all("e(a,b)", 0, 0), "0 0 0 0 1 1 'e 2 1 'a 1 'b 1"},
		{twoStrata, run("e(a,b) t(a,b)", "t(a,b)", 0, 1), "0 0 1 0 2 1 'e 2 1 'a 1 'b 1 't 2 1 'a 1 'b 0 1"},
		{twoStrata, all("e(a,b) t(a,b)", 1, 2), "1 0 2 0 2 1 'e 2 1 'a 1 'b 1 't 2 1 'a 1 'b 1 1"},
		{twoStrata, run("e(a,b) t(a,b) u(a)", "u(a)", 1, 3), "1 0 3 0 3 1 'e 2 1 'a 1 'b 1 't 2 1 'a 1 'b 1 'u 1 1 'a 0 0 1"},
		{twoStrata, done(all("e(a,b) t(a,b) u(a)", 2, 4)), "2 0 4 1 3 1 'e 2 1 'a 1 'b 1 't 2 1 'a 1 'b 1 'u 1 1 'a 1 1 1"},
		{twoStrata, done(run("e(a,b)", "", 2, 4)), "2 0 4 1 1 1 'e 2 1 'a 1 'b 0"},
		{"", done(all("f f(a) f(a,bc) f(a,bc,d1) f(a,bc,d1,0_X)", 0, 0)),
			"0 0 0 1 5 1 'f 0 1 'f 1 1 'a 1 'f 2 1 'a 2 'bc 1 'f 3 1 'a 2 'bc 2 'd1 1 'f 4 1 'a 2 'bc 2 'd1 3 '0_X 1 1 1 1 1"},
		{"", done(all("long_Name_12(long_Arg_012)", 0, 0)), "0 0 0 1 1 12 'long_Name_12 1 12 'long_Arg_012 1"},
		{"a.", run("", "", 0, 255), "0 0 255 0 0"},
		{"a.", run("", "", 0, 256), "0 1 0 0 0"},
		{"a.", run("", "", 0, 257), "0 1 1 0 0"},
		{"a.", run("", "", 0, 767), "0 2 255 0 0"},
		{"a.", run("", "", 0, api.MaxSteps), "0 3 232 0 0"},
		{"a.", done(run("", "", 1, api.MaxSteps)), "1 3 232 1 0"},
		{sixteen, run("", "", 15, 9), "15 0 9 0 0"},
		{sixteen, done(run("", "", 16, 9)), "16 0 9 1 0"},
	} {
		wantBytes(t, parse(t, c.rules), c.r, raw(c.b))
		if spelt(c.r) != c.b {
			t.Errorf("%s is spelt %s, not %s", toldRun(c.r), spelt(c.r), c.b)
		}
	}
}

// As many facts as may be known, of as many bytes as they may have, fit.
func TestSaveOfMuch(t *testing.T) {
	var l []api.Fact
	for _, f := range count("q", api.MaxFacts) {
		long := "most" + f.Args[0] + "_" + f.Args[0][3:]
		l = append(l, mk(long, long, long, long, long))
	}
	p := parse(t, "a.")
	for _, r := range []api.Run{{Known: l}, {Known: l, New: l}, {Known: l, New: l[150:]}, {Known: l[:128], New: l[:127]}} {
		wantBytes(t, p, r, raw(spelt(r)))
	}
	if b, _ := Save(p, api.Run{Known: l}); len(b) != 5+api.MaxFacts*(1+12+1+4*(1+12)+1) || b[4] != api.MaxFacts {
		t.Errorf("%d bytes come", len(b))
	}
}

// wrongRuns has runs of twoStrata, each with one thing wrong, in the order in which
// that is told.
func wrongRuns() []struct {
	r   api.Run
	err api.Errno
} {
	e := list("e(a,b) e(b,c)")
	return []struct {
		r   api.Run
		err api.Errno
	}{
		{api.Run{Known: count("q", api.MaxFacts+1)}, many},
		{api.Run{Known: list("E")}, name},
		{api.Run{Known: []api.Fact{{}}}, name},
		{api.Run{Known: list("longer_name13")}, name},
		{api.Run{Known: list("f(a,b,c,d,e)")}, many},
		{api.Run{Known: list("f(X)")}, name},
		{api.Run{Known: list("f g(a,)")}, name},
		{api.Run{Known: list("e(b,c) e(a,b)")}, form},
		{api.Run{Known: list("e(a,b) e(a,b)")}, form},
		{api.Run{Known: list("t(a)")}, fit},
		{api.Run{Known: list("e(a,b) u(a,b)")}, fit},
		{api.Run{Known: e, New: count("q", api.MaxFacts+1)}, many},
		{api.Run{Known: e, New: list("E")}, name},
		{api.Run{Known: e, New: list("e(b,c) e(a,b)")}, form},
		{api.Run{Known: e, New: list("e(a,b) e(a,b)")}, form},
		{api.Run{Known: e, Rounds: -1}, rang},
		{api.Run{Known: e, Rounds: api.MaxSteps + 1}, rang},
		{api.Run{Known: e, Rounds: 1 << 16}, rang},
		{api.Run{Known: e, Stratum: -1}, rang},
		{api.Run{Known: e, Stratum: 3}, rang},
		{api.Run{Known: e, Stratum: 256}, rang},
		{api.Run{Known: e, Stratum: 2}, rang},
		{api.Run{Known: e, Stratum: 3, Done: true}, rang},
		{api.Run{Known: e, Stratum: 258, Done: true}, rang},
		{api.Run{Known: e, Done: true}, rang},
		{api.Run{Known: e, Stratum: 1, Done: true}, rang},
		{api.Run{Known: e, New: list("e(a,c)")}, fit},
		{api.Run{New: e}, fit},
	}
}

func TestSaveOfWrongRuns(t *testing.T) {
	p := parse(t, twoStrata)
	for _, c := range wrongRuns() {
		if e := round.Wrong(p, c.r); e != c.err {
			t.Errorf("%s is wrong by %s, not %s", toldRun(c.r), errName(e), errName(c.err))
		}
		wantSaveError(t, p, c.r, c.err)
	}
}

// wrongPrograms have no strata, which is told ahead of all that is wrong with a run.
var wrongPrograms = []struct {
	text string
	err  api.Errno
}{
	{"a :- !a.", loop},
	{"a :- b. b :- !c. c :- a.", loop},
	{"a(X).", free},
	{"a :- !b(X).", free},
	{"a(x). a.", fit},
	{"a :- b(x), b(x,y).", fit},
	{"a(x) :- b. b(X) :- b. a.", free},
}

func TestSaveAndLoadOfWrongPrograms(t *testing.T) {
	right := run("z", "z", 0, 0)
	for _, c := range wrongPrograms {
		p, err := parse(t, c.text), c.err
		wantSaveError(t, p, right, err)
		wantLoadError(t, p, raw(spelt(right)), err)
		for _, c := range wrongRuns() {
			wantSaveError(t, p, c.r, err)
		}
		wantLoadError(t, p, nil, form)
		wantLoadError(t, p, raw(spelt(right)+" 0"), form)
		wantLoadError(t, p, raw("9 9 9 0 1 1 'E 0 0"), err)
		wantLoadError(t, p, raw("9 9 9 0 1 1 'E 0 2"), form)
	}
	long := parse(t, strings.Repeat("a. ", api.MaxRules))
	wantSaveError(t, append(long, long[0]), right, many)
	wantLoadError(t, append(long, long[0]), raw(spelt(right)), many)
	wantBytes(t, long, right, raw(spelt(right)))
}

// written must not be asked for bytes into which a number does not fit: what is
// wrong would be told as something that is right.
func TestNumbersThatWouldFitByTheirLastByte(t *testing.T) {
	p := parse(t, "a.")
	for _, r := range []api.Run{{Stratum: 256}, {Stratum: -256}, {Rounds: 1 << 16}, {Rounds: -(1 << 16)}, done(api.Run{Stratum: 257})} {
		wantSaveError(t, p, r, rang)
	}
	wantSaveError(t, p, api.Run{Known: count("q", 256)}, many)
}

// sample has runs of twoStrata behind each number of rounds.
func sample(t *testing.T) (api.Program, []api.Run) {
	p := parse(t, twoStrata)
	r, e := round.Begin(p, list("e(a,b) e(b,c) e(long_name_12,0) z"))
	var out []api.Run
	for !r.Done {
		out = append(out, r)
		if r, e = round.Step(p, r); e != ok {
			t.Fatal(errName(e))
		}
	}
	return p, append(out, r)
}

func TestLoadOfTooFewAndTooMany(t *testing.T) {
	p, runs := sample(t)
	for _, r := range runs {
		b := raw(spelt(r))
		wantBytes(t, p, r, b)
		for n := range b {
			wantLoadError(t, p, b[:n], form)
		}
		for n := range 256 {
			wantLoadError(t, p, append(b, byte(n)), form)
		}
		wantLoadError(t, p, append(b, b...), form)
		wantLoadError(t, p, append([]byte{0}, b...), form)
		wantLoadError(t, p, make([]byte, 100000), form)
	}
}

func TestLoadOfOtherFlags(t *testing.T) {
	p, runs := sample(t)
	for _, r := range runs {
		b := raw(spelt(r))
		flags := []int{3}
		for i := range r.Known {
			flags = append(flags, len(b)-1-i)
		}
		for _, at := range flags {
			for n := 2; n < 256; n++ {
				c := bytes.Clone(b)
				c[at] = byte(n)
				wantLoadError(t, p, c, form)
			}
		}
		c := bytes.Clone(b)
		c[3] = 1 - c[3]
		wantLoadError(t, p, c, rang)
		for i, f := range r.Known {
			c := bytes.Clone(b)
			at := len(b) - len(r.Known) + i
			c[at] = 1 - c[at]
			want := r
			if c[at] == 1 {
				want.New = fact.Join(r.New, []api.Fact{f})
			} else {
				want.New = fact.Less(r.New, []api.Fact{f})
			}
			wantLoad(t, p, c, want, ok)
		}
	}
}

// Each length in turn tells that there is more, or less, than there is.
func TestLoadOfOtherLengths(t *testing.T) {
	p := parse(t, twoStrata)
	for _, s := range []string{
		"0 0 0 0 1", "0 0 0 0 2 1 'z 0 1", "0 0 0 0 0 1 'z 0 1", "0 0 0 0 255", "0 0 0 0 255 0 0", "0 0 0 0 1 1 'z 0", "0 0 0 0 1 1 'z", "0 0 0 0 1 1", "0 0 0 0 1 0",
		"0 0 0 0 1 2 'z 0 1", "0 0 0 0 1 255 'z 0 1", "0 0 0 0 1 5 'z 0 1", "0 0 0 0 1 0 'z 0 1",
		"0 0 0 0 1 1 'z 1 1", "0 0 0 0 1 1 'z 255 1", "0 0 0 0 1 1 'z 2 1 'a 1", "0 0 0 0 1 1 'z 0 1 'a 1",
		"0 0 0 0 1 1 'z 1 2 'a 1", "0 0 0 0 1 1 'z 1 255 'a 1", "0 0 0 0 1 1 'z 1 0 'a 1",
	} {
		wantLoadError(t, p, raw(s), form)
	}
}

// What fits the form is looked at as a run: lengths that no right one has are wrong
// with the run, and not with the form.
func TestLoadOfWrongRuns(t *testing.T) {
	p := parse(t, twoStrata)
	for _, c := range []struct {
		b   string
		err api.Errno
	}{
		{"0 0 0 0 1 0 0 0", name},
		{"0 0 0 0 1 1 'Z 0 0", name},
		{"0 0 0 0 1 1 0 0 0", name},
		{"0 0 0 0 1 13 'longer_name13 0 1", name},
		{"0 0 0 0 1 1 'z 1 0 1", name},
		{"0 0 0 0 1 1 'z 1 1 'X 1", name},
		{"0 0 0 0 1 1 'z 5 1 'a 1 'a 1 'a 1 'a 1 'a 1", many},
		{"0 0 0 0 1 1 'z 5 0 0 0 0 0 1", many},
		{"0 0 0 0 2 1 'z 0 1 'y 0 1 1", form},
		{"0 0 0 0 2 1 'z 0 1 'z 0 0 0", form},
		{"0 0 0 0 1 1 'e 0 1", fit},
		{"0 0 0 0 2 1 'e 2 1 'a 1 'b 1 'u 2 1 'a 1 'b 1 1", fit},
		{"0 3 233 0 1 1 'z 0 1", rang},
		{"0 255 255 0 1 1 'z 0 1", rang},
		{"0 232 3 0 1 1 'z 0 1", rang},
		{"2 0 0 0 1 1 'z 0 1", rang},
		{"0 0 0 1 1 1 'z 0 1", rang},
		{"1 0 0 1 1 1 'z 0 1", rang},
		{"3 0 0 1 1 1 'z 0 1", rang},
		{"3 0 0 0 1 1 'z 0 1", rang},
		{"255 0 0 0 1 1 'z 0 1", rang},
		{"3 255 255 0 2 1 'z 0 1 'y 0 1 1", form},
		{"3 255 255 0 1 1 'e 0 1", fit},
		{"3 255 255 0 1 1 'Z 0 1", name},
		{"3 255 255 0 1 1 'Z 0 2", form},
		{"3 255 255 2 1 1 'Z 0 1", form},
	} {
		wantLoadError(t, p, raw(c.b), c.err)
	}
	for n := api.MaxFacts - 1; n < 256; n++ {
		r := api.Run{Known: count("q", n)}
		if n <= api.MaxFacts {
			wantBytes(t, p, r, raw(spelt(r)))
			continue
		}
		wantLoadError(t, p, raw(spelt(r)), many)
		wantLoadError(t, p, raw(spelt(r)+" 0"), form)
	}
	huge := "0 0 0 0 1 255 '" + strings.Repeat("z", 255) + " 255" + strings.Repeat(" 255 '"+strings.Repeat("a", 255), 255)
	wantLoadError(t, p, raw(huge+" 1"), name)
	wantLoadError(t, p, raw(huge), form)
	for _, c := range wrongRuns() {
		if 0 <= c.r.Stratum && c.r.Stratum < 256 && 0 <= c.r.Rounds && c.r.Rounds < 1<<16 && len(c.r.New) == 0 {
			wantLoadError(t, p, raw(spelt(c.r)), c.err)
		}
	}
}
