// Package alive: which disks of a bench the array uses, and which of these can be read and written. Disks past the end of
// live are not live.
package alive

import (
	"wattle/api"
	"wattle/bench"
)

// Is tells whether d is a live disk of the bench.
func Is(b *bench.Bench, live []bool, d int) bool {
	return d >= 0 && d < b.Len() && d < len(live) && live[d]
}

// Serves tells whether d is a live disk of the bench that has not failed.
func Serves(b *bench.Bench, live []bool, d int) bool {
	return Is(b, live, d) && !b.Failed(d)
}

// Each does it on each live disk of the bench, up to the first error. A disk that has failed is passed over.
func Each(b *bench.Bench, live []bool, do func(d int) api.Errno) api.Errno {
	for d := range b.Len() {
		if !Is(b, live, d) {
			continue
		}
		if e := do(d); e != api.OK && e != api.ErrFailed {
			return e
		}
	}
	return api.OK
}
