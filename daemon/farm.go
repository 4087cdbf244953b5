package daemon

import (
	"sync"
	"sync/atomic"

	"lowdown/api"
	"lowdown/check"
)

// Farm: P22.
func Farm(l api.Lattice, mods []api.Module, workers int) ([]api.Answer, api.Errno) {
	if e := check.Form(l, mods); e != api.OK {
		return nil, e
	}
	if workers < 1 || workers > api.MaxWorkers {
		return nil, api.ErrArg
	}
	answers := make([]api.Answer, len(mods))
	errnos := make([]api.Errno, len(mods))
	atOnce(workers, len(mods), func(i int) {
		answers[i], errnos[i] = check.Answer(l, mods, mods[i].Name)
	})
	// Only when all are done: which error came first in time hangs on how the workers went.
	for _, e := range errnos {
		if e != api.OK {
			return nil, e
		}
	}
	return answers, api.OK
}

// atOnce has workers do n things, each just once: a worker takes the next one that nobody took, until there is none.
// It comes back when all workers are at their end. Each do has places of its own to write to, so that nothing is locked.
func atOnce(workers, n int, do func(i int)) {
	var taken atomic.Int64
	take := func() int { return int(taken.Add(1)) - 1 }
	var group sync.WaitGroup
	for range workers {
		group.Add(1)
		go func() {
			defer group.Done()
			for i := take(); i < n; i = take() {
				do(i)
			}
		}()
	}
	group.Wait()
}
