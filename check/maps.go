package check

import "corollary/api"

// names is a set of them.
type names map[string]struct{}

func (m names) add(l ...string) {
	for _, s := range l {
		m[s] = struct{}{}
	}
}

func (m names) has(s string) bool {
	_, ok := m[s]
	return ok
}

func (m names) hasAll(l []string) bool {
	for _, s := range l {
		if !m.has(s) {
			return false
		}
	}
	return true
}

// widths has how many terms the first atom of each name has.
type widths map[string]int

// fit must be asked of a program's atoms in their order: the first one of a name
// is the one that those behind it are held against.
func (m widths) fit(a api.Atom) bool {
	n, met := m[a.Name]
	if !met {
		m[a.Name] = len(a.Terms)
		return true
	}
	return n == len(a.Terms)
}

// strata has the stratum of each head's name, and of no other: a name that is no
// head's is told, and never follows, so nothing has to wait for it.
type strata map[string]int

// lifted tells whether a head had to be.
func (m strata) lifted(p api.Program) bool {
	some := false
	for _, r := range p {
		for _, a := range r.Body {
			if least := m.behind(a); m[r.Head.Name] < least {
				m[r.Head.Name] = least
				some = true
			}
		}
	}
	return some
}

// behind is the least stratum that a head may have in whose body a stands.
func (m strata) behind(a api.Atom) int {
	n, isHead := m[a.Name]
	if isHead && a.Not {
		return n + 1
	}
	return n
}

func (m strata) each(p api.Program) []int {
	var out []int
	for _, r := range p {
		out = append(out, m[r.Head.Name])
	}
	return out
}
