package court_test

import (
	"fmt"

	"trestle/api"
	"trestle/court"
)

// The example of README.md.
func Example() {
	clauses, line, e := court.Parse("rank duke count\namong duke elder\nside 1 first\n")
	fmt.Println(line, e)
	guests := []api.Guest{
		{Name: "ada", Rank: "count", Court: "spain", Side: 2}, {Name: "bea", Rank: "duke", Court: "spain", Since: 1700}, {Name: "cyr", Rank: "duke", Since: 1650},
		{Name: "dan", Side: 1}, {Name: "eva", Rank: "count", Court: "france", Side: 2},
	}
	fmt.Println(court.Order(clauses, guests), court.Class(clauses, guests))
	fmt.Println(court.Reason(clauses, guests[1], guests[2], 1, 2))
	fmt.Println(court.Deciding(clauses, guests))
	fmt.Println(court.Line(clauses, guests))
	byName := []api.Clause{{Kind: api.ByName}}
	full, e := court.Merge(clauses, byName)
	fmt.Printf("%q %d\n", court.Format(full), e)
	fmt.Println(court.Line(full, guests))
	fmt.Println(court.Alternate([][]api.Clause{full, full}, []string{"france", "spain"}, guests))
	fmt.Println(court.Conflicts([][]api.Clause{full, byName}, guests))
	fmt.Println(court.Compromise([][]api.Clause{full, byName, byName}, guests))
	// Output:
	// 0 0
	// [[2] [1] [0 4] [3]] [2 1 0 3 2]
	// 1 1
	// [0 1]
	// [] 32
	// "rank duke count\namong duke elder\nside 1 first\nname\n" 0
	// [2 1 0 4 3] 0
	// [4 1 0 2 3] 0
	// [[0 1] [0 2] [1 2] [3 4]]
	// [0 1 2 3 4] 4 0
}
