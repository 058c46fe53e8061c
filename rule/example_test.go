package rule_test

import (
	"fmt"

	"trestle/api"
	"trestle/rule"
)

// The example of README.md.
func Example() {
	p := api.Problem{
		Tables: []api.Table{{Name: "sun", Shape: api.Round, A: 4}, {Name: "bar", Shape: api.Row, A: 2}},
		Guests: []api.Guest{{Name: "anna", Host: true}, {Name: "boris"}, {Name: "carl"}},
		Ties:   []api.Tie{{A: "anna", B: "boris", Kind: api.Feud}},
		Class:  []int{0, 1, 1},
	}
	rules, line, e := rule.Parse("hard peace -\nweigh 5 beside anna carl\nweigh 2 host -\nhard at carl sun\n")
	fmt.Println(line, e)
	p.Rules = rules
	fmt.Println(rule.Check(p))
	fmt.Println(rule.CheckRule(p, api.Rule{Kind: api.At, A: "anna", Table: "moon"}))
	j, at, e := rule.New(p)
	fmt.Println(at, e)
	plan := []int{0, 1, 2}
	fmt.Println(j.Score(plan), j.Broken(plan), j.Cost(plan), j.Right(plan))
	fmt.Println(j.Blame(plan, 0))
	fmt.Println(j.Right([]int{0, 4, 1}), j.Cost([]int{0, 4, 1}))
	part := []int{-1, 4, 5}
	fmt.Println(j.Cost(part), j.Floor(part))
	fmt.Println(j.Dead(part))
	fmt.Println(rule.Hard(p), rule.Named(p, 0), rule.Pinned(p, 0))
	fmt.Print(rule.Format(rule.Only(p, []int{3}).Rules))
	// Output:
	// 0 0
	// 0 0
	// 6
	// 0 0
	// [1 1 0 0] [0] 5 false
	// [0 1]
	// true 2
	// 2 0
	// 3 true
	// [0 3] [0 1] []
	// hard at carl sun
}
