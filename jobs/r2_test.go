package jobs_test

import (
	"bytes"
	"fmt"
	"math"
	"runtime"
	"slices"
	"strings"
	"testing"
	"time"

	"scanfail/api"
	"scanfail/jobs"
)

// numbered are jobs each of which tells its number, the first ones after the most steps.
func numbered(n int) []api.Job {
	l := make([]api.Job, n)
	for i := range l {
		l[i] = with(job(" N = INPUT", " K = INPUT", "L K = K - 1", " GT(K, 0) :S(L)", " OUTPUT = N"), fmt.Sprint(i), fmt.Sprint((n-i)*5))
	}
	return l
}

func TestR2EachInOrder(t *testing.T) {
	got := showAll(all(t, []api.Job{job(" OUTPUT = 'a' & 2 + 3"), job(" X ="), {}, job("", " :(L)")}, 2))
	if want := "end 1 \"a5\"\nfault 2 at 0\nend 0\nfault 6 at 1"; got != want {
		t.Errorf("All of four jobs: %s; want %s", got, want)
	}
	for _, n := range []int{1, 2, 3, 7, 16, 17, 40, api.MaxJobs} {
		for workers := 1; workers <= api.MaxWorkers; workers++ {
			for i, d := range all(t, numbered(n), workers) {
				if want := fmt.Sprintf(`end %d "%d" K="0" N="%d"`, 10*(n-i)+3, i, i); show(d) != want {
					t.Errorf("All of %d jobs by %d: at %d %s; want %s", n, workers, i, show(d), want)
				}
			}
		}
	}
}

// What is wrong with a job is told at its place, and of no other one.
func TestR2WrongOnesAmong(t *testing.T) {
	wrong := []api.Job{{Text: " X ="}, {Text: "\n:(L)"}, {Limit: -1}, {Input: make([]string, api.MaxInput+1)}, {Input: []string{"", strings.Repeat("a", api.MaxText+1)}}}
	want := []string{"fault 2 at 0", "fault 6 at 1", "fault 3 at 0", "fault 5 at 0", "fault 4 at 1"}
	for _, at := range []int{0, 1, 2, 15, 16, 31, 47, 58, 62, api.MaxJobs - 1} {
		l := numbered(api.MaxJobs)
		l[at] = wrong[at%len(wrong)]
		for _, workers := range []int{1, 3, api.MaxWorkers} {
			for i, d := range all(t, l, workers) {
				if i == at && show(d) != want[at%len(wrong)] || i != at && (d.Fault != (api.Fault{}) || !slices.Equal(d.Ran.Output, []string{fmt.Sprint(i)})) {
					t.Errorf("All by %d, the job at %d wrong: at %d %s", workers, at, i, show(d))
				}
			}
		}
	}
}

func TestR2HowMany(t *testing.T) {
	for n := range api.MaxJobs + 1 {
		wantAll(t, numbered(n), 1+n%api.MaxWorkers)
	}
	for _, n := range []int{api.MaxJobs + 1, api.MaxJobs + 2, 1000} {
		for workers := 1; workers <= api.MaxWorkers; workers++ {
			wantNone(t, make([]api.Job, n), workers, api.ErrMany)
		}
	}
}

func TestR2Workers(t *testing.T) {
	wrong := []int{math.MinInt, -api.MaxWorkers, -1, 0, api.MaxWorkers + 1, api.MaxJobs, math.MaxInt}
	for _, workers := range wrong {
		for _, n := range []int{0, 1, 16, api.MaxJobs} {
			wantNone(t, numbered(n), workers, api.ErrRange)
		}
		// Too many jobs are told first.
		wantNone(t, make([]api.Job, api.MaxJobs+1), workers, api.ErrMany)
	}
	for workers := 1; workers <= api.MaxWorkers; workers++ {
		wantAll(t, nil, workers)
		wantAll(t, []api.Job{job(" OUTPUT = 1")}, workers)
	}
}

// atWork is how many goroutines of the program there are.
func atWork() int {
	told := make([]byte, 1<<20)
	told = told[:runtime.Stack(told, true)]
	return bytes.Count(told, []byte("created by scanfail/")) - bytes.Count(told, []byte("created by scanfail/jobs_test."))
}

// most is how many goroutines, at most, are seen at work in a call.
func most(call func()) int {
	done := make(chan bool)
	go func() {
		call()
		close(done)
	}()
	seen := 0
	for {
		select {
		case <-done:
			return seen
		case <-time.After(time.Millisecond):
			seen = max(seen, atWork())
		}
	}
}

// wantAtWork: so many goroutines are seen at work in a call, at some time, and never more. It is made again when it was over too soon to be looked at.
func wantAtWork(t *testing.T, l []api.Job, workers int) {
	t.Helper()
	seen := 0
	for try := 0; seen < workers && try < 20; try++ {
		seen = max(seen, most(func() { jobs.All(l, workers) }))
	}
	if seen != workers {
		t.Errorf("All of %d jobs by %d: %d goroutines are at work", len(l), workers, seen)
	}
}

// none waits until no goroutine of the program is left: those that have done all are still there for a moment.
func none(t *testing.T) {
	t.Helper()
	for try := 0; atWork() > 0; try++ {
		if try == 1000 {
			t.Fatalf("%d goroutines are left", atWork())
		}
		time.Sleep(time.Millisecond)
	}
}

// As many goroutines are at work as workers says, be there jobs for all of them or not, and none is left.
func TestR2AsManyAsWorkersSays(t *testing.T) {
	heavy := within(job(" X = DUPL('a', 65536)", "L Y = X :(L)"), 200)
	for workers := 1; workers <= api.MaxWorkers; workers++ {
		for _, n := range []int{1, 5, 24} {
			none(t)
			wantAtWork(t, slices.Repeat([]api.Job{heavy}, n), workers)
		}
	}
	none(t)
}

// No goroutine is left, whatever is wrong.
func TestR2NoneIsLeft(t *testing.T) {
	for workers := -1; workers <= api.MaxWorkers+1; workers++ {
		for _, n := range []int{0, 1, 30, api.MaxJobs, api.MaxJobs + 1} {
			jobs.All(slices.Repeat([]api.Job{job(" X =")}, n), workers)
			none(t)
		}
	}
}

// The same comes each time, and from however many.
func TestR2HoweverTheyRun(t *testing.T) {
	var l []api.Job
	for i := range api.MaxJobs {
		name := []string{"primes", "roman", "sort", "hanoi", "words", "pascal", "collatz"}[i%7]
		l = append(l, within(ready(t, name, fmt.Sprint(i/7), "12 b", "3", "a"), []int{api.MaxSteps, 9, 300}[i%3]))
	}
	l[5], l[17] = api.Job{Text: "X"}, api.Job{Text: " F()"}
	var want string
	for workers := 1; workers <= api.MaxWorkers; workers++ {
		for range 3 {
			got := showAll(all(t, l, workers))
			if want == "" {
				want = got
			}
			if got != want {
				t.Errorf("All by %d:\n%s; want\n%s", workers, got, want)
			}
		}
	}
	wantAll(t, l, 4)
}
