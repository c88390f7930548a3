package define

import "serinette/api"

// scope is names that are bound together, and what is seen around them.
type scope struct {
	around *scope
	where  string // the definition in whose body this is
	bound  map[string]binding
}

// binding is what a name is bound to.
type binding interface {
	// get returns what a name that is bound to this gives.
	get(e *evaluation) (value, api.Errno)
}

// find returns what a name is bound to, nearest; false: it is not bound.
func (s *scope) find(name string) (b binding, ok bool) {
	for ; s != nil; s = s.around {
		if b, ok := s.bound[name]; ok {
			return b, true
		}
	}
	return nil, false
}

// within returns a scope in which these names are bound, in the same body.
func (s *scope) within(bound map[string]binding) *scope {
	return &scope{around: s, where: s.where, bound: bound}
}

// entered returns a scope in which these definitions are seen, also in their own bodies.
func entered(defs []api.Def, around *scope) (*scope, api.Errno) {
	rules := map[string][]api.Def{}
	for _, d := range defs {
		others := rules[d.Name]
		if len(others) > 0 && (len(d.Args) == 0 || len(d.Args) != len(others[0].Args)) {
			return nil, api.ErrTwice
		}
		rules[d.Name] = append(others, d)
	}
	place := around.within(map[string]binding{})
	for name, l := range rules {
		place.bound[name] = definition{name, l, place}
	}
	return place, api.OK
}

// shelf returns a scope in which the libraries are seen; of two of one name the first.
func shelf(libraries []Library) *scope {
	s := &scope{bound: map[string]binding{}}
	for _, l := range libraries {
		if _, isThere := s.bound[l.Name]; !isThere {
			s.bound[l.Name] = shelved{l.Defs, s}
		}
	}
	return s
}

// given is a value that a name is bound to.
type given struct{ v value }

func (g given) get(*evaluation) (value, api.Errno) {
	return g.v, api.OK
}

// definition is all definitions of one name in one place.
type definition struct {
	name  string
	rules []api.Def
	place *scope
}

func (d definition) get(e *evaluation) (value, api.Errno) {
	body := &scope{around: d.place, where: d.name}
	if len(d.rules[0].Args) == 0 {
		return e.eval(d.rules[0].Body, body)
	}
	return function{d.rules, body}, api.OK
}

// shelved is a library, which becomes an environment when its name is evaluated.
type shelved struct {
	defs  []api.Def
	shelf *scope
}

func (l shelved) get(*evaluation) (value, api.Errno) {
	return environmentOf(l.defs, l.shelf)
}
