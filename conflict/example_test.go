package conflict_test

import (
	"fmt"

	"trestle/api"
	"trestle/conflict"
	"trestle/rule"
)

// The example of README.md.
func Example() {
	rules, _, _ := rule.Parse("hard beside ann bob\nhard across ann bob\nhard apart bob cid 2\nweigh 3 beside ann cid\nhard seat ann sun 0\n")
	p := api.Problem{
		Tables: []api.Table{{Name: "sun", Shape: api.Round, A: 4}},
		Guests: []api.Guest{{Name: "ann"}, {Name: "bob"}, {Name: "cid"}},
		Rules:  rules,
	}
	fmt.Println(conflict.Excludes(p, []int{0, 4}))
	fmt.Println(conflict.Core(p))
	fmt.Println(conflict.Cores(p, 9))
	fmt.Println(conflict.Releases(p, 9))
	fmt.Println(conflict.Shrink(p, []int{0, 1, 4}))
	fmt.Println(conflict.Nearest(p))

	core, steps, e := conflict.Refute(p)
	fmt.Println(core, len(steps) > 0, e)
	witness, e := conflict.Witness(p, core)
	fmt.Println(witness, e)
	fmt.Println(conflict.CheckCore(p, core, steps, witness))
	fmt.Println(conflict.Witness(p, []int{0, 1}))

	text := conflict.Describe(p, []int{0, 1})
	fmt.Print(text)
	fmt.Println(conflict.ParseCore(p, text))

	fmt.Println(conflict.Hits([][]int{{2}, {0, 1}}, [][]int{{0, 2}, {1, 2}}))
	fmt.Println(conflict.Transversals([][]int{{2}, {0, 1}}, 9))
	// Output:
	// false 0
	// [2] 0
	// [[2] [0 1]] 0
	// [[0 2] [1 2]] 0
	// [0 1] 0
	// [0 1 3] [1 2] 0
	// [2] true 0
	// [[0 1 2]] 0
	// 0 0
	// [[0 2 1] [0 1 2]] 0
	// rule 0 hard beside ann bob
	// rule 1 hard across ann bob
	// [0 1] 0 0
	// true
	// [[0 2] [1 2]] 0
}
