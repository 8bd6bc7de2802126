package proof

import (
	"corollary/api"
	"corollary/fact"
	"corollary/match"
)

// given is the Rule of what was told.
const given = -1

// ground is what proofs stand on: rules, what was told, and all that follows.
type ground struct {
	rules     api.Program
	told, all []api.Fact
}

// wrong looks at all of a proof's own step ahead of its Kids' own steps.
func (g ground) wrong(x api.Proof) api.Errno {
	if x.Rule < 0 {
		if x.Rule != given || len(x.Kids) > 0 || !fact.In(g.told, x.Fact) {
			return api.ErrNone
		}
		return api.OK
	}
	if x.Rule >= len(g.rules) {
		return api.ErrKind
	}
	if e := g.wrongStep(g.rules[x.Rule], x); e != api.OK {
		return e
	}
	for _, kid := range x.Kids {
		if e := g.wrong(kid); e != api.OK {
			return e
		}
	}
	return api.OK
}

// wrongStep asks what must not be so at last: by then all variables stand for
// something.
func (g ground) wrongStep(r api.Rule, x api.Proof) api.Errno {
	binds, met := match.Meet(r.Head, x.Fact, nil)
	if !met {
		return api.ErrFit
	}
	kids := x.Kids
	for _, a := range r.Body {
		if a.Not {
			continue
		}
		if len(kids) == 0 {
			return api.ErrMany
		}
		if binds, met = match.Meet(a, kids[0].Fact, binds); !met {
			return api.ErrFit
		}
		kids = kids[1:]
	}
	if len(kids) > 0 {
		return api.ErrMany
	}
	return g.barred(r.Body, binds)
}

func (g ground) barred(body []api.Atom, binds []api.Bind) api.Errno {
	for _, a := range body {
		if !a.Not {
			continue
		}
		if f, told := match.Fill(a, binds); !told || fact.In(g.all, f) {
			return api.ErrLoop
		}
	}
	return api.OK
}
