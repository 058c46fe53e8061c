package repair_test

import (
	"fmt"

	"trestle/api"
	"trestle/repair"
	"trestle/search"
)

// The example of README.md.
func Example() {
	p := api.Problem{
		Tables: []api.Table{{Name: "sun", Shape: api.Round, A: 4}, {Name: "bar", Shape: api.Row, A: 1}},
		Guests: []api.Guest{{Name: "anna"}, {Name: "boris"}, {Name: "carl"}},
	}
	changes, line, e := repair.Parse("quarrel anna boris\nlate 0 guest dora - - 0 0 - -\ndemand hard seat carl sun 0\nclose bar 0\n")
	fmt.Println(len(changes), line, e)
	part := []int{0, 1, 2}
	fmt.Println(repair.Check(p, part, changes[0]))
	q, x, e := repair.Apply(p, part, changes[0])
	fmt.Println(x, e)

	fmt.Println(repair.Upset(q, x))
	fmt.Println(repair.AtLeast(q, x))
	fmt.Println(repair.Tries(q, x, 1))
	r, e := repair.Fix(q, x, 1)
	fmt.Println(r.Plan, r.Moved, r.Cost, e)
	r, e = repair.Oust(q, x, 0, 1)
	fmt.Println(r.Plan, r.Moved, r.Cost, e)

	kept, _ := repair.Keep(q, x)
	steps, e := repair.Prove(q, x, 1)
	fmt.Println(len(steps) > 0, e)
	fmt.Println(search.Verify(kept, 1, steps))
	_, e = repair.Prove(q, x, 2)
	fmt.Println(e)

	list, at, e := repair.Replay(p, part, changes, 2)
	for _, r := range list {
		fmt.Println(r.Plan, r.Moved)
	}
	fmt.Println(at, e)
	fmt.Print(repair.Format(changes[:2]))
	// Output:
	// 4 0 0
	// 0
	// [0 1 2] 0
	// [0]
	// 1
	// 10
	// [0 4 2] 1 0 0
	// [4 1 2] 1 0 0
	// true 0
	// 0 0
	// 66
	// [0 4 2] 1
	// [0 4 2 1] 0
	// [2 4 0 1] 2
	// 3 9
	// quarrel anna boris
	// late 0 guest dora - - 0 0 - -
}
