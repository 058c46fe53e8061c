package plan_test

import (
	"fmt"

	"trestle/api"
	"trestle/plan"
)

// The example of README.md.
func Example() {
	p := api.Problem{
		Tables: []api.Table{{Name: "sun", Shape: api.Round, A: 4}, {Name: "bar", Shape: api.Row, A: 2}},
		Guests: []api.Guest{{Name: "anna"}, {Name: "boris"}, {Name: "carl"}},
	}
	part, line, e := plan.Parse(p, "seat carl bar 1\nseat anna sun 2\n")
	fmt.Println(part, line, e)
	fmt.Println(plan.Check(p, part))
	fmt.Println(plan.Free(p, part), plan.Guests(p, part, 0))
	fmt.Println(plan.At(p, part, 5))

	fmt.Println(len(plan.Group(p, 0)), plan.Group(p, 1))
	fmt.Println(plan.Size(p))
	fmt.Println(plan.Canon(p, part))
	fmt.Println(plan.Same(p, part, []int{0, -1, 4}))
	fmt.Println(plan.Orbit(p, part))
	fmt.Println(plan.Fixed(p, part))

	fmt.Println(plan.Count(p))
	fmt.Println(plan.Rank(p, []int{0, 2, 1}))
	fmt.Println(plan.Unrank(p, 5))
	fmt.Println(plan.Next(p, []int{0, 2, 1}))

	moves, e := plan.Moves(p, part, []int{5, 4, 2})
	fmt.Println(moves, e)
	fmt.Println(plan.Do(p, part, moves))
	// Output:
	// [2 -1 5] 0 0
	// 1 52
	// [0 1 3 4] [-1 -1 0 -1]
	// 2 true
	// 8 [[0 1] [1 0]]
	// 16 0
	// [0 -1 4] 0
	// true
	// 8 0
	// 2 0
	// 120 12 0
	// 4 0
	// [0 2 3] 0
	// [0 2 3] true
	// [{1 -1 4} {0 2 -1} {2 5 2} {0 -1 5}] 0
	// [5 4 2] 0 0
}
