// Package fact has facts, and sets of them: see doc/01-fact.md.
package fact

import (
	"cmp"
	"slices"

	"corollary/api"
)

func Named(s string) bool {
	if len(s) == 0 || len(s) > api.MaxName || !begins(s[0]) {
		return false
	}
	return len(Word(s)) == len(s)
}

// Word is what s begins with of letters, digits and `_`: layers that read texts
// cut them by it, so that their words are made of the same bytes as names.
func Word(s string) string {
	n := 0
	for n < len(s) && goesOn(s[n]) {
		n++
	}
	return s[:n]
}

// A great letter does not begin a name, since it begins a variable.
func begins(c byte) bool {
	return 'a' <= c && c <= 'z' || '0' <= c && c <= '9'
}

func goesOn(c byte) bool {
	return begins(c) || 'A' <= c && c <= 'Z' || c == '_'
}

// Wrong counts Args ahead of looking at them, for ErrMany is told even where
// one of them is no name.
func Wrong(f api.Fact) api.Errno {
	if !Named(f.Name) {
		return api.ErrName
	}
	if len(f.Args) > api.MaxArgs {
		return api.ErrMany
	}
	if slices.ContainsFunc(f.Args, func(s string) bool { return !Named(s) }) {
		return api.ErrName
	}
	return api.OK
}

func Compare(a, b api.Fact) int {
	if c := cmp.Compare(a.Name, b.Name); c != 0 {
		return c
	}
	if c := cmp.Compare(len(a.Args), len(b.Args)); c != 0 {
		return c
	}
	return slices.Compare(a.Args, b.Args)
}

func Set(l []api.Fact) api.Fault {
	if len(l) > api.MaxFacts {
		return api.Fault{Err: api.ErrMany}
	}
	for i, f := range l {
		if e := Wrong(f); e != api.OK {
			return api.Fault{Err: e, At: i}
		}
		if i > 0 && Compare(l[i-1], f) >= 0 {
			return api.Fault{Err: api.ErrForm, At: i}
		}
	}
	return api.Fault{}
}

func In(l []api.Fact, f api.Fact) bool {
	return among(l)(f)
}

func Own(l []api.Fact) []api.Fact {
	return keep(l, func(api.Fact) bool { return true })
}

func Of(l []api.Fact) []api.Fact {
	return rise(slices.Clone(l))
}

func Join(a, b []api.Fact) []api.Fact {
	return rise(slices.Concat(a, b))
}

func Less(a, b []api.Fact) []api.Fact {
	inB := among(b)
	return keep(a, func(f api.Fact) bool { return !inB(f) })
}

// rise sorts l where it lies: l must be a list that nobody else has.
func rise(l []api.Fact) []api.Fact {
	slices.SortFunc(l, Compare)
	return keep(l, unlikeLast())
}

// keep copies Args too, so that what is answered is the caller's alone. It asks
// wanted from the first fact on, one behind the other: what wanted answers may
// hang on what it was asked before.
func keep(l []api.Fact, wanted func(api.Fact) bool) []api.Fact {
	var out []api.Fact
	for _, f := range l {
		if wanted(f) {
			out = append(out, copied(f))
		}
	}
	return out
}

// copied does without slices.Clone, which tells nil and an empty list apart,
// and goes on pointing at an empty list's spare room.
func copied(f api.Fact) api.Fact {
	return api.Fact{Name: f.Name, Args: append([]string(nil), f.Args...)}
}

// among looks facts up by halves, which is why l must rise.
func among(l []api.Fact) func(api.Fact) bool {
	return func(f api.Fact) bool {
		_, found := slices.BinarySearchFunc(l, f, Compare)
		return found
	}
}

// unlikeLast knows by a bool of its own that nothing came yet, since the zero
// fact may itself stand in a list.
func unlikeLast() func(api.Fact) bool {
	var last api.Fact
	asked := false
	return func(f api.Fact) bool {
		same := asked && Compare(last, f) == 0
		last, asked = f, true
		return !same
	}
}
