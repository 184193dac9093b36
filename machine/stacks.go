package machine

import "scanfail/world"

// stacks are those of texts and of places. Instructions find on them what those ahead of them have put there.
type stacks struct {
	texts  []string
	places []world.Place
}

// push puts a text on top. It never fails.
func (s *stacks) push(text string) bool {
	s.texts = append(s.texts, text)
	return true
}

// pushIf puts a text on top, if there is one.
func (s *stacks) pushIf(text string, ok bool) bool { return ok && s.push(text) }

// take takes so many texts from the top. They stand until something is put there.
func (s *stacks) take(n int) []string {
	left := len(s.texts) - n
	out := s.texts[left:]
	s.texts = s.texts[:left]
	return out
}

// pop takes the text on top.
func (s *stacks) pop() string { return s.take(1)[0] }

// pushPlace puts a place on top, if there is one.
func (s *stacks) pushPlace(p world.Place, ok bool) bool {
	if ok {
		s.places = append(s.places, p)
	}
	return ok
}

func (s *stacks) topPlace() world.Place { return s.places[len(s.places)-1] }

// popPlace takes the place on top.
func (s *stacks) popPlace() world.Place {
	p := s.topPlace()
	s.places = s.places[:len(s.places)-1]
	return p
}

// cut makes the stacks as high as they were.
func (s *stacks) cut(texts, places int) {
	s.texts, s.places = s.texts[:texts], s.places[:places]
}
