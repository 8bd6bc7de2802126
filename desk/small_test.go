package desk

import (
	"bytes"
	"slices"
	"testing"

	"corollary/api"
	"corollary/fact"
	"corollary/match"
	"corollary/proof"
	"corollary/round"
	"corollary/syntax"
)

// taken takes b apart by where things must stand: it reaches beyond the end, or
// does not reach it, where b is not just so written.
func taken(b []byte) (r api.Run, written bool) {
	defer func() {
		if recover() != nil {
			r, written = api.Run{}, false
		}
	}()
	b = b[:len(b):len(b)]
	r = api.Run{Stratum: int(b[0]), Rounds: 256*int(b[1]) + int(b[2]), Done: b[3] == 1, Known: make([]api.Fact, b[4])}
	at := 5
	for i := range r.Known {
		words := []string{}
		n := 1
		for w := 0; w < n; w++ {
			length := int(b[at])
			words = append(words, string(b[at+1:at+1+length]))
			at += 1 + length
			if w == 0 {
				n += int(b[at])
				at++
			}
		}
		r.Known[i] = mk(words[0], words[1:]...)
	}
	flags := b[at : at+len(r.Known)]
	for i, n := range flags {
		if n == 1 {
			r.New = append(r.New, r.Known[i])
		}
	}
	return r, at+len(flags) == len(b) && b[3] < 2 && !slices.ContainsFunc(flags, func(n byte) bool { return n > 1 })
}

// compareLoad: if a run comes of bytes, they come of it.
func compareLoad(t *testing.T, p api.Program, b []byte) api.Errno {
	t.Helper()
	r, written := taken(b)
	if !written {
		wantLoadError(t, p, b, form)
		return form
	}
	if e := round.Wrong(p, r); e != ok {
		wantLoadError(t, p, b, e)
		return e
	}
	wantBytes(t, p, r, b)
	return ok
}

// All short texts of some bytes, behind some beginnings.
func TestSmallBytes(t *testing.T) {
	p := parse(t, "b :- a. c :- !b.")
	came := map[api.Errno]int{}
	some := []byte{0, 1, 2, 'a', 'b'}
	for _, begin := range []string{"", "0 0 0 0", "1 0 3 0", "2 1 0 1", "0 0 0 2"} {
		l := [][]byte{raw(begin)}
		for len(l[0]) <= len(raw(begin))+7 {
			var longer [][]byte
			for _, b := range l {
				came[compareLoad(t, p, b)]++
				for _, c := range some {
					longer = append(longer, append(b[:len(b):len(b)], c))
				}
			}
			l = longer
			if t.Failed() {
				return
			}
		}
	}
	for _, e := range []api.Errno{ok, form, name, fit, rang} {
		if came[e] == 0 {
			t.Errorf("%s never comes", errName(e))
		}
	}
}

// Any one byte of a run's is another one, is left out, or stands there twice.
func TestOneByteIsAnother(t *testing.T) {
	p, runs := sample(t)
	for _, r := range runs {
		b := raw(spelt(r))
		for at := range b {
			for n := range 256 {
				c := bytes.Clone(b)
				c[at] = byte(n)
				compareLoad(t, p, c)
			}
			compareLoad(t, p, slices.Delete(bytes.Clone(b), at, at+1))
			compareLoad(t, p, slices.Insert(bytes.Clone(b), at, b[at]))
		}
	}
}

// Every run of some small facts comes back, whatever is known and new.
func TestSmallRunsComeBack(t *testing.T) {
	p := parse(t, "b :- a. c(X) :- c(X), !b.")
	base := list("a b c(x) c(y) z(x,y)")
	for known := range 1 << len(base) {
		for fresh := known; ; fresh = (fresh - 1) & known {
			r := api.Run{Stratum: known % 3, Rounds: 37 * fresh % 1001, Done: known%3 == 2}
			for i, f := range base {
				if known>>i&1 == 1 {
					r.Known = append(r.Known, f)
				}
				if fresh>>i&1 == 1 {
					r.New = append(r.New, f)
				}
			}
			wantBytes(t, p, r, raw(spelt(r)))
			if fresh == 0 {
				break
			}
		}
	}
}

// model keeps the run that was saved, and no bytes of it.
type model struct {
	told       []api.Fact
	rules      api.Program
	run, saved *api.Run
}

// first is the first of faults, in the order in which they are told.
func first(l ...api.Fault) api.Answer {
	for _, f := range l {
		if f.Err != ok {
			return api.Answer{Err: f.Err, At: f.At}
		}
	}
	return api.Answer{}
}

func unless(right bool, e api.Errno) api.Fault {
	if right {
		return api.Fault{}
	}
	return api.Fault{Err: e}
}

func (m model) after(x api.Do) (model, api.Answer) {
	is := m.run
	if is == nil {
		is = &api.Run{}
	}
	runs := unless(m.run != nil, api.ErrSoon)
	next := m
	switch x.Kind {
	case api.DoTell:
		next.told = fact.Of(append(slices.Clone(m.told), x.Fact))
		return m.or(next, first(api.Fault{Err: fact.Wrong(x.Fact)}), api.Answer{N: len(next.told)})
	case api.DoRules:
		p, f := syntax.Parse(x.Text)
		_, e := round.Begin(p, nil)
		return m.or(model{told: m.told, rules: p}, first(f, api.Fault{Err: e}), api.Answer{N: len(p)})
	case api.DoBegin:
		r, e := round.Begin(m.rules, m.told)
		next.run = &r
		return m.or(next, first(api.Fault{Err: e}), api.Answer{N: len(r.Known)})
	case api.DoStep:
		r, e := round.Steps(m.rules, *is, x.N)
		next.run = &r
		return m.or(next, first(runs, api.Fault{Err: e}), api.Answer{N: len(r.Known)})
	case api.DoSave:
		next.saved = m.run
		return m.or(next, first(runs), api.Answer{N: len(raw(spelt(*is)))})
	case api.DoBack:
		if m.saved == nil {
			return m, api.Answer{Err: none}
		}
		next.run = m.saved
		return next, api.Answer{N: len(m.saved.Known)}
	case api.DoAsk:
		body, f := syntax.Body(x.Text)
		lists, e := match.All(body, is.Known)
		return m.or(m, first(f, runs, unless(is.Done, api.ErrSoon), api.Fault{Err: e}), api.Answer{N: len(lists), Binds: lists})
	case api.DoProve:
		x, e := proof.Prove(m.rules, m.told, x.Fact)
		return m.or(m, first(api.Fault{Err: e}), api.Answer{Proof: x})
	}
	return m, api.Answer{Err: api.ErrKind}
}

// or is what comes of something that is done, if nothing is wrong with it.
func (m model) or(next model, wrong, right api.Answer) (model, api.Answer) {
	if wrong.Err != ok {
		return m, wrong
	}
	return next, right
}

func (m model) desk() api.Desk {
	out := api.Desk{Told: m.told, Rules: m.rules}
	if m.run != nil {
		out.Running, out.Run = true, *m.run
	}
	if m.saved != nil {
		out.Saved = raw(spelt(*m.saved))
	}
	return out
}

// comparePlay plays what is not refused alone, too: it comes to the same.
func comparePlay(t *testing.T, l []api.Do) {
	t.Helper()
	var m model
	var wanted, accepted []api.Answer
	var right []api.Do
	for _, x := range l {
		var a api.Answer
		m, a = m.after(x)
		wanted = append(wanted, a)
		if a.Err == ok {
			right, accepted = append(right, x), append(accepted, a)
		}
	}
	compareAnswers(t, l, m.desk(), wanted)
	if len(right) < len(l) {
		compareAnswers(t, right, m.desk(), accepted)
	}
}

func compareAnswers(t *testing.T, l []api.Do, desk api.Desk, wanted []api.Answer) {
	t.Helper()
	d, a, e := Play(l)
	if e != ok || len(a) != len(l) {
		t.Fatalf("%v: %d answers, %s comes", l, len(a), errName(e))
	}
	for i := range a {
		if toldAnswer(a[i]) != toldAnswer(wanted[i]) {
			t.Errorf("%v: %s comes of thing %d, not %s", l, toldAnswer(a[i]), i, toldAnswer(wanted[i]))
		}
	}
	wantDesk(t, d, desk)
}

// Four of some things in any order, behind some beginnings.
func TestSmallPlays(t *testing.T) {
	two := rules("t(X) :- e(X). u(X) :- v(X), !t(X).")
	some := []api.Do{
		tell("e(a)"), tell("e(b)"), tell("e"), two, rules("t(X) :- "), begin, step(1), step(-1), save, back, ask("t(X)"), prove("t(a)"), {},
	}
	playAll(t, nil, some, 3)
	playAll(t, []api.Do{two, tell("v(b)"), tell("e(a)"), begin, step(9), save}, some, 3)
	playAll(t, []api.Do{tell("e(a)"), two, begin}, some, 4)
	playAll(t, []api.Do{tell("e(a)"), two, begin, step(1), save, step(2), tell("v(a)"), tell("v(b)")}, some, 4)
}

// playAll plays n more of some things, in all ways.
func playAll(t *testing.T, l, some []api.Do, n int) {
	t.Helper()
	if t.Failed() {
		return
	}
	if n == 0 {
		comparePlay(t, l)
		return
	}
	for _, x := range some {
		playAll(t, slices.Concat(l, []api.Do{x}), some, n-1)
	}
}
