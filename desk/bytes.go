package desk

import (
	"corollary/api"
	"corollary/fact"
)

// written asks for a run with which nothing is wrong: then each of its numbers
// fits into the bytes that it has.
func written(r api.Run) []byte {
	out := []byte{byte(r.Stratum), byte(r.Rounds >> 8), byte(r.Rounds), flag(r.Done), byte(len(r.Known))}
	for _, f := range r.Known {
		out = addFact(out, f)
	}
	for _, f := range r.Known {
		out = append(out, flag(fact.In(r.New, f)))
	}
	return out
}

func addFact(out []byte, f api.Fact) []byte {
	out = addText(out, f.Name)
	out = append(out, byte(len(f.Args)))
	for _, s := range f.Args {
		out = addText(out, s)
	}
	return out
}

func addText(out []byte, s string) []byte {
	return append(append(out, byte(len(s))), s...)
}

func flag(set bool) byte {
	if set {
		return 1
	}
	return 0
}

// read tells whether b is a run's bytes, and no more than these; what is wrong
// with that run it leaves to others.
func read(b []byte) (api.Run, bool) {
	r := reader{rest: b}
	out := r.run()
	return out, !r.amiss && len(r.rest) == 0
}

// reader takes bytes from the front of the rest. Where there is none more, or one
// that is never written, all is amiss from then on, and what it reads means
// nothing: behind the end that is noughts, so that it ends there soon.
type reader struct {
	rest  []byte
	amiss bool
}

func (r *reader) run() api.Run {
	out := api.Run{Stratum: r.number()}
	high := r.number()
	out.Rounds = high<<8 | r.number()
	out.Done = r.flag()
	for range r.number() {
		out.Known = append(out.Known, r.fact())
	}
	for _, f := range out.Known {
		if r.flag() {
			out.New = append(out.New, f)
		}
	}
	out.New = fact.Own(out.New)
	return out
}

func (r *reader) fact() api.Fact {
	out := api.Fact{Name: r.text()}
	for range r.number() {
		out.Args = append(out.Args, r.text())
	}
	return out
}

func (r *reader) text() string { return string(r.take(r.number())) }

func (r *reader) flag() bool {
	n := r.number()
	r.amiss = r.amiss || n > 1
	return n == 1
}

func (r *reader) number() int {
	b := r.take(1)
	if len(b) == 0 {
		return 0
	}
	return int(b[0])
}

// take takes all n bytes, or, where there are fewer, none, and leaves none.
func (r *reader) take(n int) []byte {
	if n > len(r.rest) {
		r.rest, r.amiss = nil, true
		return nil
	}
	out := r.rest[:n]
	r.rest = r.rest[n:]
	return out
}
