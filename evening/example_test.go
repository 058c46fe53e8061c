package evening_test

import (
	"fmt"

	"trestle/evening"
)

// The example of README.md.
func Example() {
	s, e := evening.Plan(5, []int{3, 2}, 3)
	fmt.Println(s, e)
	fmt.Println(evening.Check(5, []int{3, 2}, s))
	fmt.Println(evening.Meet(5, s)[1], evening.Beside(5, s)[1], evening.Together(5, s, 1, 0))
	fmt.Println(evening.Most(5, s), evening.Least(5, s), evening.Strain(5, s))
	fmt.Println(evening.LeastMost(5, []int{3, 2}, 3), evening.MostEvenings(5, []int{3, 2}, 2))
	fmt.Println(evening.Hosts(5, s))
	fmt.Printf("%q\n", evening.Format(5, s))

	again, line, e := evening.Parse(4, "0 1 / 2 3\n0 1 / 2 3\n")
	fmt.Println(again, line, e, evening.Strain(4, again))
	fmt.Println(evening.Polish(4, again, 9))
	fmt.Println(evening.Relabel(4, again[:1], []int{3, 0, 1, 2}))

	fmt.Println(evening.Pairs(4))
	fmt.Println(evening.Rings(5))
	fmt.Println(evening.Net(2, 3))
	fmt.Println(evening.Plane(2))
	fmt.Println(evening.Kirkman()[0])
	fmt.Println(evening.Design(12, 3, 1))
	fmt.Println(evening.Mul(9, 3, 3))
	// Output:
	// [[[0 1 2] [3 4]] [[0 3 1] [2 4]] [[0 4 2] [1 3]]] 0
	// 0 0
	// [2 0 1 2 0] [2 0 1 2 0] [0 1]
	// 2 0 20
	// 2 5
	// [[0 3] [1 2] [4 1]]
	// "0 1 2 / 3 4\n0 3 1 / 2 4\n0 4 2 / 1 3\n"
	// [[[0 1] [2 3]] [[0 1] [2 3]]] 0 0 8
	// [[[2 1] [0 3]] [[0 1] [2 3]]] 1 0
	// [[[3 0] [1 2]]] 0
	// [[[3 0] [1 2]] [[3 1] [2 0]] [[3 2] [0 1]]] 0
	// [[[4 0 1 3 2]] [[4 1 2 0 3]]] 0
	// [[[0 3] [1 4] [2 5]] [[0 4] [1 5] [2 3]] [[0 5] [1 3] [2 4]]] 0
	// [[[0 2] [1 3]] [[0 3] [1 2]] [[0 1] [2 3]]] 0
	// [[14 0 7] [1 6 12] [2 5 10] [3 4 13] [8 9 11]]
	// [[[0 4 8] [1 5 9] [2 6 10] [3 7 11]]] 0
	// 2 true
}
