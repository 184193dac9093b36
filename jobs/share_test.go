package jobs

import (
	"bytes"
	"fmt"
	"runtime"
	"testing"

	"scanfail/api"
)

// titled are jobs that can be told from one another.
func titled(n int) []api.Job {
	l := make([]api.Job, n)
	for i := range l {
		l[i].Text = fmt.Sprint(i)
	}
	return l
}

// shared is share at work on jobs, and a channel from which comes what it answers.
func shared(l []api.Job) (chan task, chan result, chan []api.Done) {
	tasks, results, out := make(chan task), make(chan result), make(chan []api.Done)
	go func() { out <- share(l, tasks, results) }()
	return tasks, results, out
}

// sham is a result by which its task is known.
func sham(t task) result {
	return result{at: t.at, done: api.Done{Ran: api.Ran{Output: []string{t.job.Text}}}}
}

func wantShams(t *testing.T, got []api.Done, n int) {
	t.Helper()
	if len(got) != n {
		t.Errorf("%d results; want %d", len(got), n)
	}
	for i, d := range got {
		if len(d.Ran.Output) != 1 || d.Ran.Output[0] != fmt.Sprint(i) {
			t.Errorf("at %d: %q", i, d.Ran.Output)
		}
	}
}

// Who takes long with the first job keeps nobody from all others.
func TestR2AsTheyComeFree(t *testing.T) {
	tasks, results, out := shared(titled(api.MaxJobs))
	slow := <-tasks
	for range api.MaxJobs - 1 {
		results <- sham(<-tasks)
	}
	results <- sham(slow)
	wantShams(t, <-out, api.MaxJobs)
}

// Jobs are handed out in order, as many as are asked for before a result has come, and results may come in any order.
func TestR2ResultsInAnyOrder(t *testing.T) {
	for turn := range api.MaxWorkers {
		tasks, results, out := shared(titled(api.MaxWorkers))
		var open []task
		for i := range api.MaxWorkers {
			open = append(open, <-tasks)
			if open[i].at != i {
				t.Errorf("the job at %d comes, not the one at %d", open[i].at, i)
			}
		}
		for i := range open {
			results <- sham(open[(turn+len(open)-i)%len(open)])
		}
		wantShams(t, <-out, api.MaxWorkers)
	}
}

// A worker goes on until there are no more tasks.
func TestR2AWorkerTakesAll(t *testing.T) {
	tasks, results, ended := make(chan task), make(chan result), make(chan bool)
	go func() {
		work(tasks, results)
		close(ended)
	}()
	for _, at := range []int{3, 0, 7} {
		tasks <- task{at: at, job: api.Job{Text: " OUTPUT = 'told'", Limit: 1}}
		if r := <-results; r.at != at || len(r.done.Ran.Output) != 1 || r.done.Ran.Output[0] != "told" {
			t.Errorf("of the job at %d comes %v", at, r)
		}
	}
	close(tasks)
	<-ended
}

// When All answers, no worker is at work any more.
func TestR2Joined(t *testing.T) {
	told := make([]byte, 1<<20)
	for range 200 {
		All(titled(2), api.MaxWorkers)
		if now := told[:runtime.Stack(told, true)]; bytes.Contains(now, []byte("scanfail/jobs.work(")) {
			t.Fatalf("somebody is still at work: %s", now)
		}
	}
}
