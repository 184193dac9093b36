package jobs

import "scanfail/api"

// task is a job, with its place among all.
type task struct {
	at  int
	job api.Job
}

// result is what came of the job at a place.
type result struct {
	at   int
	done api.Done
}

// work does tasks, one behind the other, until there are no more.
func work(tasks <-chan task, results chan<- result) {
	for t := range tasks {
		results <- result{at: t.at, done: One(t.job)}
	}
}

// share lets whoever comes free take the next job, and puts each result at its job's place: in which order they come is not to be seen.
func share(l []api.Job, tasks chan<- task, results <-chan result) []api.Done {
	out := make([]api.Done, len(l))
	for next, came := 0, 0; came < len(l); {
		var t task
		var open chan<- task // stays nil when all jobs have been taken: nothing is sent there, and results alone come
		if next < len(l) {
			t, open = task{at: next, job: l[next]}, tasks
		}
		select {
		case open <- t:
			next++
		case r := <-results:
			out[r.at] = r.done
			came++
		}
	}
	return out
}
