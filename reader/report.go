package reader

import "lispprover/api"

// report ends the reading of a malformed text; the exported functions recover the error.
func report(err api.Errno, pos int) {
	panic(api.SourceError{Err: err, Pos: pos})
}

// reported returns the error of a panic that was recovered; OK and 0 if there was no panic.
func reported(value any) api.SourceError {
	bad, _ := value.(api.SourceError)
	return bad
}
