package desk

import (
	"cmp"
	"fmt"
	"strconv"
	"strings"
	"testing"

	"corollary/api"
	"corollary/syntax"
)

const (
	ok   = api.OK
	form = api.ErrForm
	rang = api.ErrRange
	much = api.ErrMuch
	many = api.ErrMany
	none = api.ErrNone
	name = api.ErrName
	fit  = api.ErrFit
	free = api.ErrFree
	loop = api.ErrLoop
)

func mk(name string, args ...string) api.Fact { return api.Fact{Name: name, Args: args} }

func parse(t *testing.T, s string) api.Program {
	t.Helper()
	p, f := syntax.Parse(s)
	if f.Err != api.OK {
		t.Fatalf("Parse(%q): %v", s, f)
	}
	return p
}

// list reads facts with blanks between them, as they stand there.
func list(s string) []api.Fact {
	var out []api.Fact
	for _, w := range strings.Fields(s) {
		f, args, some := strings.Cut(strings.TrimSuffix(w, ")"), "(")
		if some {
			out = append(out, mk(f, strings.Split(args, ",")...))
		} else {
			out = append(out, mk(f))
		}
	}
	return out
}

// told writes facts as list reads them; a name without bytes is written as ?, so
// that such a fact is not taken for none.
func told(l []api.Fact) string {
	var out []string
	for _, f := range l {
		s := cmp.Or(f.Name, "?")
		if len(f.Args) > 0 {
			s += "(" + strings.Join(f.Args, ",") + ")"
		}
		out = append(out, s)
	}
	return strings.Join(out, " ")
}

// count has n facts of a name that rise, of one Arg each.
func count(name string, n int) []api.Fact {
	var out []api.Fact
	for i := range n {
		out = append(out, mk(name, fmt.Sprintf("n%04d", i)))
	}
	return out
}

// run reads a run: what is known, what is new, the stratum, and the rounds.
func run(known, fresh string, stratum, rounds int) api.Run {
	return api.Run{Known: list(known), New: list(fresh), Stratum: stratum, Rounds: rounds}
}

func done(r api.Run) api.Run {
	r.Done = true
	return r
}

// all has everything that is known as new.
func all(known string, stratum, rounds int) api.Run { return run(known, known, stratum, rounds) }

func toldRun(r api.Run) string {
	return fmt.Sprintf("[%s] [%s] stratum %d, round %d, %v", told(r.Known), told(r.New), r.Stratum, r.Rounds, r.Done)
}

// raw reads bytes with blanks between them: numbers, and texts with ' ahead.
func raw(s string) []byte {
	var out []byte
	for _, w := range strings.Fields(s) {
		if text, some := strings.CutPrefix(w, "'"); some {
			out = append(out, text...)
			continue
		}
		n, err := strconv.Atoi(w)
		if err != nil || n != int(byte(n)) {
			panic(w + " is no byte")
		}
		out = append(out, byte(n))
	}
	return out
}

// spelt writes a run as raw reads it, whether it is right or not.
func spelt(r api.Run) string {
	text := func(s string) string { return fmt.Sprintf(" %d '%s", len(s), s) }
	last := " 0"
	if r.Done {
		last = " 1"
	}
	out, fresh := fmt.Sprint(r.Stratum, r.Rounds/256, r.Rounds%256)+last+fmt.Sprint(" ", len(r.Known)), ""
	for _, f := range r.Known {
		out += text(f.Name) + fmt.Sprint(" ", len(f.Args))
		for _, s := range f.Args {
			out += text(s)
		}
		if strings.Contains(" "+told(r.New)+" ", " "+told([]api.Fact{f})+" ") {
			fresh += " 1"
		} else {
			fresh += " 0"
		}
	}
	return out + fresh
}

func errName(e api.Errno) string {
	l := []string{"OK", "ErrKind", "ErrForm", "ErrRange", "ErrMuch", "ErrMany", "ErrNone", "ErrName", "ErrFit", "ErrFree", "ErrLoop", "ErrSoon"}
	if e < 0 || int(e) >= len(l) {
		return fmt.Sprint("Errno ", int(e))
	}
	return l[e]
}

// toldAnswer leaves out whatever is zero: what should be is, if it is not told.
func toldAnswer(a api.Answer) string {
	var out []string
	if a.Err != ok {
		out = append(out, errName(a.Err))
	}
	if a.At != 0 {
		out = append(out, fmt.Sprint("at ", a.At))
	}
	if a.N != 0 {
		out = append(out, fmt.Sprint(a.N))
	}
	for _, l := range a.Binds {
		out = append(out, toldBinds(l))
	}
	if x := toldProof(a.Proof); x != "?/0" {
		out = append(out, x)
	}
	return cmp.Or(strings.Join(out, " "), "nothing")
}

func toldBinds(l []api.Bind) string {
	var out []string
	for _, b := range l {
		out = append(out, b.Var+"="+b.Name)
	}
	return "[" + strings.Join(out, " ") + "]"
}

func toldProof(x api.Proof) string {
	out := told([]api.Fact{x.Fact}) + fmt.Sprint("/", x.Rule)
	var kids []string
	for _, k := range x.Kids {
		kids = append(kids, toldProof(k))
	}
	if len(kids) > 0 {
		out += "[" + strings.Join(kids, " ") + "]"
	}
	return out
}

func toldDesk(d api.Desk) string {
	return fmt.Sprintf("told %s; rules %q; running %v %s; saved %v", told(d.Told), syntax.Print(d.Rules), d.Running, toldRun(d.Run), d.Saved)
}
