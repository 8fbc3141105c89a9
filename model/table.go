package model

import (
	"slices"

	"saucier/api"
)

// most is how long a table may be.
const most = 65536

// table is one of a server's tables: its areas, and what its addresses have, from 0 on. A table that is nil is one that a request leaves alone: nothing of it is forbidden, read or written.
type table[T bool | uint16] struct {
	areas []api.Area
	cells []T
}

// right reports whether the areas may be, and are of addresses that the table has.
func (t *table[T]) right() bool {
	end := 0
	for _, a := range t.areas {
		// Many is held against what is left, not the area's end against the table's: that could be too great for an int.
		if a.At < end || a.Many < 1 || a.Many > len(t.cells)-a.At {
			return false
		}
		end = a.At + a.Many
	}
	return len(t.cells) <= most
}

// readable reports whether n addresses from at on may be read.
func (t *table[T]) readable(at, n int) bool {
	if t == nil {
		return true
	}
	return !slices.ContainsFunc(t.owners(at, n), func(a api.Area) bool { return !a.Read })
}

// writable reports whether n addresses from at on may be written.
func (t *table[T]) writable(at, n int) bool {
	if t == nil {
		return true
	}
	return !slices.ContainsFunc(t.owners(at, n), func(a api.Area) bool {
		return !a.Write || a.Whole && (a.At != at || a.Many != n)
	})
}

// owners returns the area of each of n addresses from at on, and a zero one, that forbids all, where there is none.
func (t *table[T]) owners(at, n int) []api.Area {
	l := make([]api.Area, n)
	for _, a := range t.areas {
		for i := max(at, a.At); i < at+n && has(a, i); i++ {
			// An area that has addresses has a Many above 0: the first one of an address stays.
			if l[i-at].Many == 0 {
				l[i-at] = a
			}
		}
	}
	return l
}

// has reports whether an area that does not begin behind i has that address.
func has(a api.Area, i int) bool {
	// The distance is always right without a sign, even if it is too great for an int.
	return a.Many > 0 && uint(i)-uint(a.At) < uint(a.Many)
}

// read returns what n addresses have, from at on, with zeros behind it up to a multiple of some number.
func (t *table[T]) read(at, n, multiple int) []T {
	if t == nil {
		return nil
	}
	l := make([]T, (n+multiple-1)/multiple*multiple)
	copy(l, t.cells[at:at+n])
	return l
}

// write changes what addresses have, from at on.
func (t *table[T]) write(at int, l []T) {
	if t != nil {
		copy(t.cells[at:], l)
	}
}
