package terms

// scope is the names that are bound where something is read, the innermost ones last.
type scope struct {
	bound []binding
	last  map[string]int // behind which of them the innermost one of a name stands; 0: nowhere
}

// binding is a name's value, and what last was outside of it.
type binding struct {
	name  string
	value int
	outer int
}

func newScope() scope {
	return scope{last: map[string]int{}}
}

func (s *scope) bind(name string, value int) {
	s.bound = append(s.bound, binding{name: name, value: value, outer: s.last[name]})
	s.last[name] = len(s.bound)
}

// leave takes the last so many away.
func (s *scope) leave(count int) {
	for range count {
		end := len(s.bound) - 1
		s.last[s.bound[end].name] = s.bound[end].outer
		s.bound = s.bound[:end]
	}
}

func (s *scope) find(name string) (int, bool) {
	at := s.last[name]
	if at == 0 {
		return 0, false
	}
	return s.bound[at-1].value, true
}
