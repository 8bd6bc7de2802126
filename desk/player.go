package desk

import (
	"corollary/api"
	"corollary/check"
	"corollary/fact"
	"corollary/match"
	"corollary/proof"
	"corollary/round"
	"corollary/syntax"
)

// player is a desk at which things are done. What each of them makes is looked at
// ahead of being laid on the desk, so that what is refused changes nothing.
type player struct{ api.Desk }

func (d *player) do(x api.Do) api.Answer {
	switch x.Kind {
	case api.DoTell:
		return d.tell(x.Fact)
	case api.DoRules:
		return d.rule(x.Text)
	case api.DoBegin:
		return d.begin()
	case api.DoStep:
		return d.step(x.N)
	case api.DoAsk:
		return d.ask(x.Text)
	case api.DoProve:
		return d.prove(x.Fact)
	case api.DoSave:
		return d.save()
	case api.DoBack:
		return d.back()
	}
	return refused(api.ErrKind)
}

func refused(e api.Errno) api.Answer { return api.Answer{Err: e} }

// refusedAt is for texts and rules alone: what else is wrong has no place.
func refusedAt(f api.Fault) api.Answer { return api.Answer{Err: f.Err, At: f.At} }

// tell counts behind joining, for what was told before makes no more of them.
func (d *player) tell(f api.Fact) api.Answer {
	if e := fact.Wrong(f); e != api.OK {
		return refused(e)
	}
	told := fact.Join(d.Told, []api.Fact{f})
	if len(told) > api.MaxFacts {
		return refused(api.ErrMany)
	}
	d.Told = told
	return api.Answer{N: len(told)}
}

// rule leaves nothing of a run, since strata and fits of other rules mean nothing
// beside these.
func (d *player) rule(text string) api.Answer {
	p, f := syntax.Parse(text)
	if f.Err != api.OK {
		return refusedAt(f)
	}
	if _, f := check.Strata(p); f.Err != api.OK {
		return refusedAt(f)
	}
	d.Desk = api.Desk{Told: d.Told, Rules: p}
	return api.Answer{N: len(p)}
}

func (d *player) begin() api.Answer {
	return d.runs(round.Begin(d.Rules, d.Told))
}

func (d *player) step(n int) api.Answer {
	if !d.Running {
		return refused(api.ErrSoon)
	}
	return d.runs(round.Steps(d.Rules, d.Run, n))
}

func (d *player) save() api.Answer {
	if !d.Running {
		return refused(api.ErrSoon)
	}
	b, e := Save(d.Rules, d.Run)
	if e != api.OK {
		return refused(e)
	}
	d.Saved = b
	return api.Answer{N: len(b)}
}

// back may ask for bytes, since there are some of every run.
func (d *player) back() api.Answer {
	if len(d.Saved) == 0 {
		return refused(api.ErrNone)
	}
	return d.runs(Load(d.Rules, d.Saved))
}

// runs is how whatever makes a run ends.
func (d *player) runs(r api.Run, e api.Errno) api.Answer {
	if e != api.OK {
		return refused(e)
	}
	d.Running, d.Run = true, r
	return api.Answer{N: len(r.Known)}
}

// ask reads the text first: an error of it is told even where nothing Runs.
func (d *player) ask(text string) api.Answer {
	body, f := syntax.Body(text)
	if f.Err != api.OK {
		return refusedAt(f)
	}
	if !d.Running || !d.Run.Done {
		return refused(api.ErrSoon)
	}
	lists, e := match.All(body, d.Run.Known)
	if e != api.OK {
		return refused(e)
	}
	return api.Answer{N: len(lists), Binds: lists}
}

// prove needs no run: it makes all that follows by itself.
func (d *player) prove(f api.Fact) api.Answer {
	x, e := proof.Prove(d.Rules, d.Told, f)
	if e != api.OK {
		return refused(e)
	}
	return api.Answer{Proof: x}
}
