// Package parted: rows that are parted between two geometries: those below a split are of the one an array goes to, those
// from it on of the one it comes from.
package parted

import (
	"wattle/api"
	"wattle/geom"
)

// Check is api.ErrArg, unless rows may be parted so. Where none is of the geometry to, that one is not asked.
func Check(a, to api.Geom, split int) api.Errno {
	if e := geom.Check(a); e != api.OK {
		return e
	}
	if split < 0 || split > api.Rows {
		return api.ErrArg
	}
	if split == 0 {
		return api.OK
	}
	return geom.Check(to)
}

// Of is the geometry of a row.
func Of(a, to api.Geom, split, row int) api.Geom {
	if row < split {
		return to
	}
	return a
}
