package proof

import (
	"slices"

	"corollary/api"
	"corollary/check"
	"corollary/fact"
	"corollary/match"
	"corollary/naive"
)

// prover stands on a ground of which it knows how it came to be: past is what there
// was behind each Once, from what was told on. Its size is that of what it proved
// so far.
type prover struct {
	ground
	size
	past [][]api.Fact
	ways map[int]way
}

// way is by which rule something came, and of what.
type way struct {
	rule int
	of   []api.Fact
}

// follow makes all that follows by itself, and has All's errors: All does not tell
// by which Once something came.
func (w *prover) follow() api.Errno {
	strata, f := check.Strata(w.rules)
	if f.Err != api.OK {
		return f.Err
	}
	if f := naive.Facts(w.rules, w.told); f.Err != api.OK {
		return f.Err
	}
	w.keep(w.told)
	for n := range naive.Count(strata) {
		if e := w.overAndOver(strata, n); e != api.OK {
			return e
		}
	}
	return api.OK
}

func (w *prover) overAndOver(strata []int, n int) api.Errno {
	for {
		before := len(w.all)
		all, e := naive.Once(w.rules, strata, n, w.all)
		if e != api.OK {
			return e
		}
		w.keep(all)
		if len(all) == before {
			return api.OK
		}
	}
}

func (w *prover) keep(all []api.Fact) {
	w.all = all
	w.past = append(w.past, all)
}

// prove ends, since what something came of is less old. It stops as soon as its
// proofs are too much: there may be many more of them than facts.
func (w *prover) prove(f api.Fact, depth int) (api.Proof, api.Errno) {
	w.count++
	w.depth = max(w.depth, depth)
	if w.much() {
		return api.Proof{}, api.ErrMuch
	}
	how := w.way(f)
	out := api.Proof{Fact: api.Fact{Name: f.Name, Args: slices.Clone(f.Args)}, Rule: how.rule}
	for _, g := range how.of {
		kid, e := w.prove(g, depth+1)
		if e != api.OK {
			return api.Proof{}, e
		}
		out.Kids = append(out.Kids, kid)
	}
	return out, api.OK
}

// way looks for each fact's way once, however often it is asked for: a rule may
// have very many lists.
func (w *prover) way(f api.Fact) way {
	n, _ := slices.BinarySearchFunc(w.all, f, fact.Compare)
	how, found := w.ways[n]
	if !found {
		how = w.find(f)
		w.ways[n] = how
	}
	return how
}

// find has a rule for whatever was not told: the one by which it came, if none
// ahead of that one will do.
func (w *prover) find(f api.Fact) way {
	if !fact.In(w.told, f) {
		lessOld := w.before(f)
		for n, r := range w.rules {
			if of, ok := w.by(r, f, lessOld); ok {
				return way{n, of}
			}
		}
	}
	return way{rule: given}
}

// before is what there was ahead of the Once by which f came.
func (w *prover) before(f api.Fact) []api.Fact {
	old := slices.IndexFunc(w.past, func(l []api.Fact) bool { return fact.In(l, f) })
	return w.past[old-1]
}

// by has the facts of which r makes f, if these are all less old. Where All has an
// error there are no lists.
func (w *prover) by(r api.Rule, f api.Fact, lessOld []api.Fact) ([]api.Fact, bool) {
	binds, met := match.Meet(r.Head, f, nil)
	if !met {
		return nil, false
	}
	body := bound(r.Body, binds)
	lists, _ := match.All(body, w.all)
	for _, l := range lists {
		if of := filled(body, l); len(fact.Less(of, lessOld)) == 0 {
			return of, true
		}
	}
	return nil, false
}

// bound is body with the names that its variables stand for, where binds tells
// them.
func bound(body []api.Atom, binds []api.Bind) []api.Atom {
	out := slices.Clone(body)
	for i, a := range body {
		out[i].Terms = slices.Clone(a.Terms)
		for j, t := range a.Terms {
			if name, told := match.Get(binds, t.Name); told && t.Var {
				out[i].Terms[j] = api.Term{Name: name}
			}
		}
	}
	return out
}

// filled is what must be so of body.
func filled(body []api.Atom, l []api.Bind) []api.Fact {
	var out []api.Fact
	for _, a := range body {
		if f, told := match.Fill(a, l); told && !a.Not {
			out = append(out, f)
		}
	}
	return out
}
