package rule

import (
	"trestle/api"
	"trestle/hall"
)

// seat is what a judge knows of a seat of the hall.
type seat struct {
	table, place int
	level        int
	open         bool
	links        []link // to each seat of the table
}

// link tells how two seats of one table lie. The zero link stands for seats of different tables.
type link struct {
	atOneTable     bool
	beside, across bool
	reached        bool // is their distance defined?
	steps          int
}

// seatsAt returns the seats of a table.
func seatsAt(index int, t api.Table) []seat {
	// Asked of a hall of this table alone, package hall need not go through the other tables each time.
	alone := []api.Table{t}
	list := make([]seat, hall.Seats(t))
	for k := range list {
		list[k] = seat{index, k, hall.Level(alone, k), hall.Open(alone, k), make([]link, len(list))}
		for m := range k {
			l := measure(alone, k, m)
			list[k].links[m], list[m].links[k] = l, l
		}
	}
	return list
}

// measure returns how two seats of a table lie.
func measure(alone []api.Table, k, m int) link {
	steps, reached := hall.Distance(alone, k, m)
	return link{true, hall.Beside(alone, k, m), hall.Across(alone, k, m), reached, steps}
}

// isNear reports whether seats are near each other.
func (l link) isNear() bool { return l.beside || l.across }
