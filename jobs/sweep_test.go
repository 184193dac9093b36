package jobs_test

import (
	"fmt"
	"math"
	"slices"
	"strings"
	"testing"

	"scanfail/api"
	"scanfail/library"
)

// mixer makes jobs of the lines of programs that stand ready, and of what makes them wrong.
type mixer struct {
	*dice
	programs []string
}

func newMixer(seed dice) mixer {
	m := mixer{dice: &seed}
	for _, name := range library.Names() {
		text, _ := library.Text(name)
		m.programs = append(m.programs, text)
	}
	return m
}

// bent is a program's text with something changed: bytes, or lines, or nothing.
func (m mixer) bent(text string) string {
	at := m.below(len(text))
	switch m.below(10) {
	case 0:
		return text[:at] + text[at+1:]
	case 1:
		return text[:at] + pick(m.dice, "X", "'", "\n", " ", "(", ")", ":", "*", "1", "\x00", "\xff", "?", "[", "<") + text[at+1:]
	case 2:
		return text[:at] + "\n" + text[at:]
	case 3:
		return text + text
	case 4:
		return "* a remark\n" + text + " OUTPUT = 'behind'"
	case 5:
		lines := strings.SplitAfter(text, "\n")
		i, j := m.below(len(lines)), m.below(len(lines))
		lines[i], lines[j] = lines[j], lines[i]
		return strings.Join(lines, "")
	}
	return text
}

func (m mixer) line() string {
	return pick(m.dice, "", "7", "12", "a b", "(c)", "1994", "1,2,3", "-1", " 5 ", "otto", "99999999999999999999", "a  b\xff")
}

// job is one that may be wrong.
func (m mixer) job() api.Job {
	j := api.Job{Text: m.bent(pick(m.dice, m.programs...)), Limit: pick(m.dice, 0, 1, 7, 40, 40, 300, 300, 1000, -1, math.MaxInt)}
	for range m.below(5) {
		j.Input = append(j.Input, m.line())
	}
	if m.below(50) == 0 {
		j.Input = append(j.Input, pick(m.dice, strings.Repeat("a", api.MaxText), strings.Repeat("a", api.MaxText+1)))
	}
	return j
}

func (m mixer) jobs(n int) []api.Job {
	l := make([]api.Job, n)
	for i := range l {
		l[i] = m.job()
	}
	return l
}

func TestR1Sweep(t *testing.T) {
	m := newMixer(311)
	faults, hows := map[api.Errno]int{}, map[int]int{}
	for range 10000 {
		d := asModel(t, m.job())
		faults[d.Fault.Err]++
		hows[d.Ran.How]++
		if t.Failed() {
			return
		}
	}
	for _, err := range []api.Errno{api.OK, api.ErrForm, api.ErrRange, api.ErrMuch, api.ErrNone, api.ErrName} {
		if faults[err] < 20 {
			t.Errorf("error %d came but %d times", err, faults[err])
		}
	}
	if hows[api.RanEnd] < 1000 || hows[api.RanLimit] < 1000 {
		t.Errorf("so they ended: %v", hows)
	}
}

func TestR2Sweep(t *testing.T) {
	m := newMixer(313)
	for range 400 {
		l := m.jobs(m.below(api.MaxJobs + 1))
		wantAll(t, l, 1+m.below(api.MaxWorkers))
		if t.Failed() {
			return
		}
	}
}

// Where jobs stand among others makes nothing of them.
func TestR2Shuffled(t *testing.T) {
	m := newMixer(317)
	l := m.jobs(api.MaxJobs)
	want := map[string]string{}
	for _, j := range l {
		want[fmt.Sprint(j)] = whole(model(j))
	}
	for range 100 {
		for i := range l {
			j := m.below(i + 1)
			l[i], l[j] = l[j], l[i]
		}
		for i, d := range all(t, l, 1+m.below(api.MaxWorkers)) {
			if whole(d) != want[fmt.Sprint(l[i])] {
				t.Fatalf("at %d comes %s", i, show(d))
			}
		}
	}
	// The same job many times is as many jobs.
	for _, d := range all(t, slices.Repeat(l[:1], api.MaxJobs), 5) {
		if whole(d) != want[fmt.Sprint(l[0])] {
			t.Fatalf("comes %s", show(d))
		}
	}
}
