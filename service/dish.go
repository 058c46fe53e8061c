package service

import (
	"cmp"
	"math"
	"slices"
	"strings"

	"trestle/api"
	"trestle/hall"
)

// Dish says that N guests with a diet sit at a table.
type Dish struct {
	Table int
	Diet  string
	N     int
}

// Plates returns for each table how many guests sit there.
func Plates(p api.Problem, part []int) []int {
	if !isPart(p, part) {
		return nil
	}
	return platesAt(p, part)
}

// Dishes returns how many guests with each diet sit at each table.
func Dishes(p api.Problem, part []int) []Dish {
	if !isPart(p, part) {
		return nil
	}
	var dishes []Dish
	for d, n := range orders(p, part) {
		d.N = n
		dishes = append(dishes, d)
	}
	slices.SortFunc(dishes, func(c, d Dish) int {
		return cmp.Or(cmp.Compare(c.Table, d.Table), strings.Compare(c.Diet, d.Diet))
	})
	return dishes
}

// orders returns how many guests there are for each dish, whose own N is 0.
func orders(p api.Problem, part []int) map[Dish]int {
	count := map[Dish]int{}
	for g, seat := range part {
		if t, _, seated := hall.Where(p.Tables, seat); seated {
			count[Dish{Table: t, Diet: p.Guests[g].Diet}]++
		}
	}
	return count
}

// Serve returns the tables that are served, in the order of service.
func Serve(p api.Problem, part []int) []int {
	if !isPart(p, part) {
		return nil
	}
	least := leastClasses(p, part)
	tables := served(platesAt(p, part))
	slices.SortStableFunc(tables, func(t, u int) int { return cmp.Compare(least[t], least[u]) })
	return tables
}

// leastClasses returns for each table that is served the least class of a guest there.
func leastClasses(p api.Problem, part []int) []int {
	least := slices.Repeat([]int{math.MaxInt}, len(p.Tables))
	for g, seat := range part {
		if t, _, seated := hall.Where(p.Tables, seat); seated {
			least[t] = min(least[t], classOf(p, g))
		}
	}
	return least
}

// classOf returns the class of a guest.
func classOf(p api.Problem, g int) int {
	if len(p.Class) == 0 {
		return 0
	}
	return p.Class[g]
}
