package order

// At answers s with another counter: no row of commands is long enough to bring it to its end.
func At(s *State, counter uint64) *State {
	c := *s
	c.counter = counter
	return &c
}
