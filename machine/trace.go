package machine

import "scanfail/api"

// trace keeps the first statements that are come to.
type trace struct {
	seen []api.Seen
	most int
	came int // how many have been come to
}

// note notes that a statement is come to, within so many calls, and tells its number among all that were. Until it has succeeded it counts as failed.
func (t *trace) note(statement, within int) int {
	if len(t.seen) < t.most {
		t.seen = append(t.seen, api.Seen{At: statement, Within: within})
	}
	t.came++
	return t.came - 1
}

// succeed notes that the one of that number has succeeded, if it is kept.
func (t *trace) succeed(number int) {
	if number < len(t.seen) {
		t.seen[number].OK = true
	}
}
