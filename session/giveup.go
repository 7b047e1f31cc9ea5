package session

import "lethe/api"

// surrender: what a call panics with where it goes no further.
type surrender struct {
	code api.Errno
}

func giveUp(e api.Errno) {
	panic(surrender{code: e})
}

// demand: whatever a layer below answers ends the call, so that the order of the errors is that of the calls.
func demand(e api.Errno) {
	if e != api.OK {
		giveUp(e)
	}
}

// must: what a layer below answers beside OK.
func must[T any](answer T, e api.Errno) T {
	demand(e)
	return answer
}

// caught: the number that a call gave up with, out of what recover answers; OK: it did not.
func caught(thrown any) api.Errno {
	switch v := thrown.(type) {
	case nil:
		return api.OK
	case surrender:
		return v.code
	}
	panic(thrown) // no refusal of a layer below, and not to be taken for one
}
