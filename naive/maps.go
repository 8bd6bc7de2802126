package naive

import (
	"maps"
	"slices"
	"strconv"
	"strings"

	"corollary/api"
	"corollary/fact"
)

// known has facts, each once, by what tells them apart.
type known map[string]api.Fact

func (m known) add(l ...api.Fact) {
	for _, f := range l {
		m[apart(f)] = f
	}
}

// set leaves the order to fact.Of, for a map has none; that copies Args, too, so
// that facts may be added as they were handed in.
func (m known) set() []api.Fact {
	return fact.Of(slices.Collect(maps.Values(m)))
}

// apart writes ahead of each text how long it is: a head may be asked for whose
// names are none, and they may have whatever bytes would stand between them.
func apart(f api.Fact) string {
	var out strings.Builder
	write := func(s string) {
		out.WriteString(strconv.Itoa(len(s)))
		out.WriteByte(' ')
		out.WriteString(s)
	}
	write(f.Name)
	for _, s := range f.Args {
		write(s)
	}
	return out.String()
}

// widths has how many terms the atoms of each name have.
type widths map[string]int

// differing is no number of terms: no fact goes with atoms of its name that have
// not as many as each other.
const differing = -1

func widthsOf(p api.Program) widths {
	out := widths{}
	for _, r := range p {
		out.add(r.Head)
		for _, a := range r.Body {
			out.add(a)
		}
	}
	return out
}

func (m widths) add(a api.Atom) {
	n, met := m[a.Name]
	if met && n != len(a.Terms) {
		m[a.Name] = differing
		return
	}
	m[a.Name] = len(a.Terms)
}

func (m widths) fit(f api.Fact) bool {
	n, met := m[f.Name]
	return !met || n == len(f.Args)
}
