package round

import (
	"slices"

	"corollary/api"
	"corollary/fact"
	"corollary/match"
	"corollary/naive"
)

// next makes one round of a run with which nothing is wrong, and which is not
// Done. Known and New are lists of their own again, whatever came.
func next(p api.Program, strata []int, r api.Run) (api.Run, api.Errno) {
	if r.Rounds == api.MaxSteps {
		return api.Run{}, api.ErrMany
	}
	made, e := makes(p, strata, r)
	if e != api.OK {
		return api.Run{}, e
	}
	r.Known = fact.Join(r.Known, made)
	if len(r.Known) > api.MaxFacts {
		return api.Run{}, api.ErrMany
	}
	r.New = made
	if len(made) == 0 {
		r.Stratum++
		r.New = fact.Own(r.Known)
		r.Done = r.Stratum == naive.Count(strata)
	}
	r.Rounds++
	return r, api.OK
}

// makes asks all rules of the stratum, even where too many facts came of the
// first ones: an error of theirs is told ahead of that.
func makes(p api.Program, strata []int, r api.Run) ([]api.Fact, api.Errno) {
	m := making{known: r.Known, fresh: r.New}
	for i, rule := range p {
		if strata[i] != r.Stratum {
			continue
		}
		if e := m.ask(rule); e != api.OK {
			return nil, e
		}
	}
	return m.made, api.OK
}

// making is one round: made is a set of what came of it so far, and is not known.
type making struct{ known, fresh, made []api.Fact }

// ask leaves out what follows from facts of which none is fresh: it came behind
// the last of them. A rule that asks for no facts must be asked all the same.
func (m *making) ask(r api.Rule) api.Errno {
	if !slices.ContainsFunc(r.Body, func(a api.Atom) bool { return !a.Not }) {
		heads, e := naive.Heads(r, m.known)
		m.add(heads)
		return e
	}
	for at, a := range r.Body {
		if a.Not {
			continue
		}
		lists, e := match.With(r.Body, m.known, at, m.fresh)
		if e != api.OK {
			return e
		}
		m.add(filled(r.Head, lists))
	}
	return api.OK
}

// add stops where there are too many, for it does not matter then by how many:
// rules may make far more than could be known.
func (m *making) add(l []api.Fact) {
	if len(m.known)+len(m.made) <= api.MaxFacts {
		m.made = fact.Join(m.made, fact.Less(l, m.known))
	}
}

func filled(head api.Atom, lists [][]api.Bind) []api.Fact {
	var out []api.Fact
	for _, l := range lists {
		if f, told := match.Fill(head, l); told {
			out = append(out, f)
		}
	}
	return out
}
