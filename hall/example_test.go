package hall_test

import (
	"fmt"

	"trestle/hall"
)

// The example of README.md.
func Example() {
	tables, line, e := hall.Parse("table high long 3 1 0 0\ntable sun round 6 0 3 4 0 5\n")
	fmt.Println(line, e, hall.Count(tables))
	fmt.Println(hall.Honour(tables, 0), hall.Neighbours(tables, 2))
	fmt.Println(hall.Distance(tables, 7, 9))
	fmt.Println(hall.Turns(tables[1]))
	// Output:
	// 0 0 13
	// [3 2 4 1 5 0 6] [1 3 4]
	// 2 true
	// [[0 1 2 3 4 5] [5 4 3 2 1 0]]
}
