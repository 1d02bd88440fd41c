package sweep

import "sync"

// workers is how many work at one time.
const workers = 8

// each does the same work for each of many things, and tells what came of them in their order. The work only reads what others read, too.
func each[Thing, Result any](things []Thing, work func(Thing) Result) []Result {
	results := make([]Result, len(things))
	var all sync.WaitGroup
	for first := range min(workers, len(things)) {
		all.Add(1)
		go func() {
			defer all.Done()
			for i := first; i < len(things); i += workers {
				results[i] = work(things[i])
			}
		}()
	}
	all.Wait()
	return results
}
