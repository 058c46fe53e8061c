package search_test

import (
	"fmt"

	"trestle/api"
	"trestle/search"
)

// The example of README.md.
func Example() {
	p := api.Problem{
		Tables: []api.Table{{Name: "sun", Shape: api.Round, A: 4}},
		Guests: []api.Guest{{Name: "anna"}, {Name: "boris"}, {Name: "carl"}},
		Rules:  []api.Rule{{Kind: api.Across, A: "anna", B: "boris", Weight: 5}},
	}
	fmt.Println(search.Exists(p))
	fmt.Println(search.First(p))
	fmt.Println(search.Count(p))
	fmt.Println(search.All(p, 3))
	fmt.Println(search.Costs(p))
	fmt.Println(search.Best(p))
	fmt.Println(search.Ranking(p, 2))
	fmt.Println(search.Extend(p, []int{-1, 0, -1}))
	fmt.Println(search.Places(p, 0))
	fmt.Println(search.Forced(p))

	best, steps, e := search.Certify(p)
	fmt.Println(best, e)
	fmt.Println(search.Verify(p, best.Cost, steps))
	fmt.Println(search.Prove(p, 5))

	p.Rules[0] = api.Rule{Kind: api.Apart, A: "anna", B: "boris", N: 2}
	steps, e = search.Prove(p, -1)
	fmt.Println(len(steps), e)
	fmt.Println(search.Tree(p))
	fmt.Println(search.Verify(p, -1, steps))
	text := search.FormatProof(p, steps)
	fmt.Print(text)
	read, line, e := search.ParseProof(p, text)
	fmt.Println(len(read), line, e)
	// Output:
	// true 0
	// [0 1 2] 0
	// 24 3 0
	// [[0 1 2] [0 1 3] [0 2 1]] 0
	// [{0 1 8} {5 2 16}] 0
	// {[0 2 1] 0} 0
	// [{[0 2 1] 0} {[0 1 2] 5}] 0
	// [1 0 2] 0
	// [0 1 2 3] 0
	// [-1 -1 -1] 0
	// {[0 2 1] 0} 0
	// 0 0
	// [] 66
	// 8 0
	// 41 0
	// 0 0
	// case anna
	// case boris
	// broken 0
	// broken 0
	// broken 0
	// turned 2
	// turned 4
	// turned 1
	// 8 0 0
}
