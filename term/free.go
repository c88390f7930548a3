package term

import "serinette/api"

// finder gathers free names; bound counts what binds each name where it looks.
type finder struct {
	bound map[string]int
	seen  map[string]bool
	free  []string
}

// Free returns the names that stand free in t, in the order in which they stand.
func Free(t api.Term) []string {
	if !Valid(t) {
		return nil
	}
	f := &finder{bound: map[string]int{}, seen: map[string]bool{}}
	f.term(t)
	return f.free
}

// term looks through a valid term.
func (f *finder) term(t api.Term) {
	switch t.Op {
	case "name":
		f.name(t.Text)
	case "iter":
		f.term(t.Kids[0])
		f.bind(t.Names, func() { f.term(t.Kids[1]) })
	default:
		f.bind(boundBy(t), func() {
			for _, kid := range t.Kids {
				f.term(kid)
			}
			f.bodies(t.Defs)
		})
	}
}

// boundBy returns the names that t binds in all that it has.
func boundBy(t api.Term) []string {
	if t.Op == "fun" {
		return t.Names
	}
	var names []string
	for _, d := range t.Defs {
		names = append(names, d.Name)
	}
	return names
}

// bodies looks through the bodies, where their patterns are bound.
func (f *finder) bodies(defs []api.Def) {
	for _, d := range defs {
		f.bind(patternNames(d.Args), func() { f.term(d.Body) })
	}
}

// bind does something with these names bound.
func (f *finder) bind(names []string, do func()) {
	for _, s := range names {
		f.bound[s]++
	}
	do()
	for _, s := range names {
		f.bound[s]--
	}
}

// name takes a name, if it is free and has not been met.
func (f *finder) name(s string) {
	if f.bound[s] == 0 && !f.seen[s] {
		f.seen[s] = true
		f.free = append(f.free, s)
	}
}
