// Package hall is layer 1: tables, their seats, neighbours and symmetries. See shared/doc/01-hall.md.
package hall

import "trestle/api"

// Check reports whether a table is valid.
func Check(t api.Table) api.Errno {
	s, known := layoutOf(t.Shape)
	switch {
	case !isName(t.Name):
		return api.ErrName
	case !known || !s.fits(t.A, t.B):
		return api.ErrShape
	case !isRising(t.Open, s.seats(t.A, t.B)):
		return api.ErrOpen
	case !isPlace(t.X) || !isPlace(t.Y):
		return api.ErrArg
	}
	return api.OK
}

// CheckAll reports whether a hall is valid: the index of the first table with an error, and the error.
func CheckAll(l []api.Table) (int, api.Errno) {
	if len(l) > api.MaxTables {
		return 0, api.ErrMany
	}
	for i, t := range l {
		if e := checkNext(l[:i], t); e != api.OK {
			return i, e
		}
	}
	return 0, api.OK
}

// Seats returns the number of seats of a table.
func Seats(t api.Table) int {
	if Check(t) != api.OK {
		return 0
	}
	return seatsOf(t)
}

// Count returns the number of seats of a hall.
func Count(l []api.Table) int {
	if !isHall(l) {
		return 0
	}
	return seatsBefore(l, len(l))
}

// First returns the number of the first seat of table t.
func First(l []api.Table, t int) int {
	if !hasTable(l, t) {
		return 0
	}
	return seatsBefore(l, t)
}

// Where returns the table of a seat, and the seat's number at that table.
func Where(l []api.Table, seat int) (t, k int, ok bool) {
	if seat < 0 || !isHall(l) {
		return 0, 0, false
	}
	k = seat
	for i, table := range l {
		n := seatsOf(table)
		if k < n {
			return i, k, true
		}
		k -= n
	}
	return 0, 0, false
}

// Find returns the index of the table with a name.
func Find(l []api.Table, name string) (int, bool) {
	if !isHall(l) {
		return 0, false
	}
	if i := indexOf(l, name); i >= 0 {
		return i, true
	}
	return 0, false
}

// checkNext finds what is wrong with a table that comes after the tables before it.
func checkNext(before []api.Table, t api.Table) api.Errno {
	if e := Check(t); e != api.OK {
		return e
	}
	if indexOf(before, t.Name) >= 0 {
		return api.ErrTwice
	}
	return api.OK
}

// indexOf returns the index of the table with a name, or -1.
func indexOf(l []api.Table, name string) int {
	for i, t := range l {
		if t.Name == name {
			return i
		}
	}
	return -1
}

// isHall reports whether a hall is valid.
func isHall(l []api.Table) bool {
	_, e := CheckAll(l)
	return e == api.OK
}

// hasTable reports whether a hall is valid and has a table of that index.
func hasTable(l []api.Table, t int) bool {
	return t >= 0 && t < len(l) && isHall(l)
}

// seatsBefore returns the number of seats of the first n tables of a valid hall.
func seatsBefore(l []api.Table, n int) int {
	sum := 0
	for _, t := range l[:n] {
		sum += seatsOf(t)
	}
	return sum
}

// isName reports whether a text is a name.
func isName(s string) bool {
	if len(s) < 1 || len(s) > api.MaxName {
		return false
	}
	for i := range len(s) {
		if s[i] < 'a' || s[i] > 'z' {
			return false
		}
	}
	return true
}

// isRising reports whether a list is strictly increasing and has only numbers from 0 to n - 1.
func isRising(list []int, n int) bool {
	last := -1
	for _, k := range list {
		if k <= last || k >= n {
			return false
		}
		last = k
	}
	return true
}

// isPlace reports whether a number is a valid coordinate.
func isPlace(x int) bool { return x >= 0 && x <= api.MaxXY }
