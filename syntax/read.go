package syntax

import (
	"strings"

	"corollary/api"
	"corollary/fact"
)

// text knows bytes, blanks and notes, but not what must stand where. What it
// meets begins at at: every look skips blanks and notes first.
type text struct {
	s  string
	at int
}

func (t *text) skip() {
	for t.at < len(t.s) {
		switch t.s[t.at] {
		case ' ', '\n':
			t.at++
		case '%':
			t.skipNote()
		default:
			return
		}
	}
}

func (t *text) skipNote() {
	line, _, _ := strings.Cut(t.s[t.at:], "\n")
	t.at += len(line)
}

func (t *text) ended() bool {
	t.skip()
	return t.at == len(t.s)
}

func (t *text) took(sign string) bool {
	t.skip()
	if !strings.HasPrefix(t.s[t.at:], sign) {
		return false
	}
	t.at += len(sign)
	return true
}

// ahead leaves the word where it is, so that a fault is told where it begins.
func (t *text) ahead() string {
	t.skip()
	return fact.Word(t.s[t.at:])
}

// thrown is what a reader panics with: a type of its own, so that read catches
// no panic that a reader did not mean.
type thrown struct{ api.Fault }

// reader is a text of which some things must be so. Its methods answer only
// what is right; at the first thing that is not, they are thrown out of.
type reader struct{ text }

// read is the edge at which readers' panics end.
func read[T any](s string, part func(*reader) []T) (out []T, f api.Fault) {
	if len(s) > api.MaxText {
		return nil, api.Fault{Err: api.ErrMuch}
	}
	defer func() {
		if x := recover(); x != nil {
			f = x.(thrown).Fault
		}
	}()
	return part(&reader{text{s: s}}), api.Fault{}
}

func (r *reader) fail(e api.Errno) {
	panic(thrown{api.Fault{Err: e, At: r.at}})
}

func (r *reader) must(met bool) {
	if !met {
		r.fail(api.ErrForm)
	}
}

func (r *reader) rules() []api.Rule {
	var out []api.Rule
	for !r.ended() {
		if len(out) == api.MaxRules {
			r.fail(api.ErrMany)
		}
		out = append(out, r.rule())
	}
	return out
}

func (r *reader) rule() api.Rule {
	out := api.Rule{Head: r.atom()}
	if r.took(":-") {
		out.Body = r.body()
	}
	r.must(r.took("."))
	return out
}

func (r *reader) onlyBody() []api.Atom {
	out := r.body()
	r.must(r.ended())
	return out
}

func (r *reader) body() []api.Atom {
	return list(r, api.MaxBody, r.bodyAtom)
}

func (r *reader) bodyAtom() api.Atom {
	not := r.took("!")
	out := r.atom()
	out.Not = not
	return out
}

func (r *reader) atom() api.Atom {
	out := api.Atom{Name: r.word(fact.Named)}
	if r.took("(") {
		out.Terms = list(r, api.MaxArgs, r.term)
		r.must(r.took(")"))
	}
	return out
}

func (r *reader) term() api.Term {
	w := r.word(func(s string) bool { return fact.Named(s) || Variable(s) })
	return api.Term{Var: Variable(w), Name: w}
}

// word copies, so that a short name does not hold the whole text in memory.
func (r *reader) word(fits func(string) bool) string {
	w := r.ahead()
	r.must(w != "")
	if !fits(w) {
		r.fail(api.ErrName)
	}
	r.at += len(w)
	return strings.Clone(w)
}

// list fails right behind the `,` that asks for one part too many, ahead of
// looking at what stands there, and of skipping blanks.
func list[T any](r *reader, most int, part func() T) []T {
	out := []T{part()}
	for r.took(",") {
		if len(out) == most {
			r.fail(api.ErrMany)
		}
		out = append(out, part())
	}
	return out
}
