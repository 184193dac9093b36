package jobs_test

import (
	"math"
	"slices"
	"strings"
	"testing"
	"unsafe"

	"scanfail/api"
	"scanfail/jobs"
)

// Whatever a text is, no call panics, and each one ends.
func TestZ1Anything(t *testing.T) {
	d := dice(331)
	pieces := []string{" ", " ", "X", "=", "'a'", "1", "\n", "\n", ":", "(", ")", "S(END)", "?", "[", "]", "[ARB]", "&", "+", "$", "<", ">", ",", "DEFINE", "F", "INPUT", "OUTPUT", "*", "''", "'", "\x00", "\xff", "F(", "-", ":=", "L", "\r"}
	good := 0
	for range 100000 {
		var text []byte
		for range d.below(12) {
			text = append(text, pick(&d, pieces...)...)
		}
		j := api.Job{Text: string(text), Input: []string{"a", "1"}[:d.below(3)], Limit: pick(&d, 0, 1, 9, 50, math.MinInt, -1, api.MaxSteps+1)}
		if asModel(t, j).Fault.Err == api.OK {
			good++
		}
		if t.Failed() {
			return
		}
	}
	if good < 5000 {
		t.Errorf("only %d programs could be run", good)
	}
}

// As many jobs as can be, each of which does as much as it may.
func TestZ1Greatest(t *testing.T) {
	kinds := []api.Job{
		job(" DEFINE F(N) F", "L F(1) :(L)", "F N = N + 1", " F(N) :S(RETURN)F(FRETURN)"),
		job("L OUTPUT = '' :(L)"),
		job(" X = DUPL('a', 65535)", "L OUTPUT = X", " N = N + 1 :(L)"),
		job("L T<I> = DUPL('a', 4000)", " I = I + 1 :(L)"),
		job(" P := ['a' *P | 'b']", " X = DUPL('a', 65536)", " X ? [*P]"),
		{Text: strings.Repeat("*", api.MaxText), Input: slices.Repeat([]string{"a"}, api.MaxInput), Limit: api.MaxSteps},
		{Text: strings.Repeat(" X = "+strings.Repeat("(", 20)+"1"+strings.Repeat(")", 20)+"\n", api.MaxLines), Limit: api.MaxSteps},
		{Text: strings.Repeat(" ", 1<<20), Limit: api.MaxSteps},
	}
	l := make([]api.Job, api.MaxJobs)
	for i := range l {
		l[i] = kinds[i%len(kinds)]
	}
	got := all(t, l, api.MaxWorkers)
	hows := []int{api.RanLimit, api.RanLimit, api.RanMuch, api.RanMuch, api.RanLimit, 0, api.RanEnd, 0}
	for i, d := range got {
		if kind := i % len(kinds); d.Ran.How != hows[kind] || !same(d, got[kind]) {
			t.Errorf("at %d: how %d after %d steps, fault %v", i, d.Ran.How, d.Ran.Steps, d.Fault)
		}
	}
	for kind := range kinds {
		if !same(got[kind], model(kinds[kind])) {
			t.Errorf("of kind %d comes something else than the model says", kind)
		}
	}
}

// The same comes each time, whoever else asks, of the same jobs too.
func TestZ1TheSameEachTime(t *testing.T) {
	m := newMixer(337)
	for range 20 {
		l := m.jobs(20)
		want := showAll(all(t, l, 1))
		came := make(chan string)
		for workers := 1; workers <= 8; workers++ {
			go func() {
				got, _ := jobs.All(l, workers)
				came <- showAll(got)
			}()
		}
		for range 8 {
			if got := <-came; got != want {
				t.Errorf("another time comes %s; want %s", got, want)
			}
		}
	}
}

// roomy are jobs in memory of their own, with room behind each list, and something wrong in it.
func roomy(l []api.Job) []api.Job {
	out := make([]api.Job, 0, len(l)+2)
	for _, j := range l {
		j.Input = append(append(make([]string, 0, len(j.Input)+1), j.Input...), strings.Repeat("a", api.MaxText+1))[:len(j.Input)]
		out = append(out, j)
	}
	return append(out, api.Job{Text: " X ="}, api.Job{Limit: -1})[:len(l)]
}

// rooms are all texts and limits of jobs, with the room behind the lists.
func rooms(l []api.Job) (texts []string, limits []int) {
	for _, j := range l[:cap(l)] {
		texts = append(append(texts, j.Text), j.Input[:cap(j.Input)]...)
		limits = append(limits, j.Limit, len(j.Input))
	}
	return texts, limits
}

func TestZ2OnlyReads(t *testing.T) {
	m := newMixer(347)
	for range 100 {
		l := m.jobs(m.below(20))
		lines := roomy(l)
		texts, limits := rooms(lines)
		got := all(t, lines, 1+m.below(api.MaxWorkers))
		for i, j := range l {
			if want := jobs.One(j); !same(got[i], want) || !same(jobs.One(lines[i]), want) {
				t.Fatalf("the room behind lists is seen: at %d %s; want %s", i, show(got[i]), show(want))
			}
		}
		if after, ends := rooms(lines); !slices.Equal(after, texts) || !slices.Equal(ends, limits) {
			t.Fatalf("what was handed in has changed")
		}
	}
	// With room for more than MaxJobs there are as many jobs as the list has.
	wantAll(t, make([]api.Job, 1000)[:api.MaxJobs], 3)
}

// textsOf are all texts of answers.
func textsOf(l []api.Done) []string {
	var out []string
	for _, d := range l {
		out = append(out, d.Ran.Output...)
		for _, g := range d.Ran.Vars {
			out = append(out, g.Name, g.Text)
		}
		for _, i := range d.Ran.Items {
			out = append(out, i.Name, i.Key, i.Text)
		}
	}
	return out
}

// overlap tells whether two texts lie in the same memory.
func overlap(a, b string) bool {
	if a == "" || b == "" {
		return false
	}
	from, to := uintptr(unsafe.Pointer(unsafe.StringData(a))), uintptr(unsafe.Pointer(unsafe.StringData(b)))
	return from < to+uintptr(len(b)) && to < from+uintptr(len(a))
}

// No text of an answer lies in what was handed in, nor in another one.
func TestZ2AnswersAreNewMemory(t *testing.T) {
	j := with(job(" LONGNAME = 'a text of the program'", " OUTPUT = 'a text of the program'", " OUTPUT = LONGNAME", " T<'a key'> = 'an item'", " TT<LONGNAME> = INPUT", " OUTPUT = INPUT"), "a line that comes in", "another one")
	l := []api.Job{j, j, j}
	got := textsOf(append(all(t, l, 2), jobs.One(j)))
	if len(got) != 4*11 {
		t.Fatalf("%d texts: %q", len(got), got)
	}
	for i, s := range got {
		for _, x := range append(slices.Clone(j.Input), j.Text) {
			if overlap(s, x) {
				t.Errorf("%q of the answer lies in %s, which was handed in", s, brief(x))
			}
		}
		for _, other := range got[:i] {
			if overlap(s, other) {
				t.Errorf("%q and %q of one answer lie in the same memory", s, other)
			}
		}
	}
}

// wipe clears an answer, with the room behind its lists.
func wipe(d *api.Done) {
	clear(d.Ran.Output[:cap(d.Ran.Output)])
	clear(d.Ran.Vars[:cap(d.Ran.Vars)])
	clear(d.Ran.Items[:cap(d.Ran.Items)])
	*d = api.Done{}
}

// Whoever changes what was handed in, or what was answered, changes nothing else.
func TestZ2NothingIsKept(t *testing.T) {
	m := newMixer(349)
	for range 20 {
		l := slices.Repeat(m.jobs(10), 3)
		want := showAll(all(t, l, 1))
		got, again := all(t, l, 4), all(t, l, 4)
		for i := range again {
			wipe(&again[i])
		}
		for i := range l {
			clear(l[i].Input)
		}
		clear(l)
		if showAll(got) != want {
			t.Fatalf("what was done elsewhere is seen in an answer: %s; want %s", showAll(got), want)
		}
		for i := 20; i < 30; i++ {
			wipe(&got[i])
		}
		if first := strings.Join(strings.Split(want, "\n")[:20], "\n"); showAll(got[:20]) != first {
			t.Fatalf("lists of one answer share memory: %s; want %s", showAll(got[:20]), first)
		}
	}
}

// nil and a list without entries are the same.
func TestZ3NoEntries(t *testing.T) {
	for _, workers := range []int{1, 2, api.MaxWorkers} {
		if got := append(all(t, nil, workers), all(t, []api.Job{}, workers)...); len(got) > 0 {
			t.Errorf("All of no jobs by %d: %d results", workers, len(got))
		}
	}
	for _, workers := range []int{-1, 0, api.MaxWorkers + 1} {
		wantNone(t, nil, workers, api.ErrRange)
		wantNone(t, []api.Job{}, workers, api.ErrRange)
	}
	j := job(" OUTPUT = INPUT :S(END)", " OUTPUT = 'none'")
	wantOne(t, with(j), `end 2 "none"`)
	wantOne(t, with(j, []string{}...), `end 2 "none"`)
	j.Input = []string{}
	wantOne(t, j, `end 2 "none"`)
	wantAll(t, []api.Job{j, with(j), j}, 2)
}

// Beside a fault there is no run, beside a run no fault, and no place.
func TestZ4Answers(t *testing.T) {
	m := newMixer(353)
	for range 100 {
		for _, d := range all(t, m.jobs(20), 3) {
			switch {
			case d.Fault.Err != api.OK:
				if !same(d, api.Done{Fault: d.Fault}) {
					t.Fatalf("beside a fault comes a run: %s", show(d))
				}
			case d.Fault.At != 0 || d.Ran.How < api.RanEnd || d.Ran.How > api.RanMuch:
				t.Fatalf("no fault, at %d, how %d", d.Fault.At, d.Ran.How)
			}
		}
	}
}
