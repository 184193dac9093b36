package fold

import (
	"strings"

	"scanfail/api"
)

// ways is what is known of where labels lead.
type ways struct {
	program []api.Statement
	passed  map[string]int // of the labels of statements that only lead on: which statement that is
}

func newWays(l []api.Statement) *ways {
	w := &ways{program: l, passed: map[string]int{}}
	for at, s := range l {
		if s.Label != "" && s.Kind == api.StEmpty && s.Always != "" {
			w.passed[s.Label] = at
		}
	}
	return w
}

// end is the label, in new memory, that is come to in the end from a label on; if there is no end, it itself.
func (w *ways) end(label string) string {
	last := label
	// Who has passed them all, and has come to one of them again, comes to no end.
	for range len(w.passed) + 1 {
		at, passes := w.passed[last]
		if !passes {
			return strings.Clone(last)
		}
		last = w.program[at].Always
	}
	return strings.Clone(label)
}
