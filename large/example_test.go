package large_test

import (
	"fmt"

	"trestle/api"
	"trestle/large"
	"trestle/rule"
)

// The example of README.md.
func Example() {
	rules, _, _ := rule.Parse("hard together anna boris\nweigh 5 beside carl dora\nweigh 2 at carl sun\nweigh 1 at dora bar\n")
	p := api.Problem{
		Tables: []api.Table{{Name: "sun", Shape: api.Round, A: 3}, {Name: "bar", Shape: api.Row, A: 2}},
		Guests: []api.Guest{{Name: "anna"}, {Name: "boris"}, {Name: "carl"}, {Name: "dora"}},
		Rules:  rules,
	}
	tables := large.TablesOf(p, []int{0, 1, 4, 3})
	fmt.Println(tables)
	fmt.Println(large.Fixed(p, tables))
	part, guests, left, e := large.Split(p, tables, 1)
	fmt.Print(guests, left, e, " ", rule.Format(part.Rules))
	fmt.Println(large.Arrange(p, tables))

	start, e := large.Start(p)
	fmt.Println(start, e)
	fmt.Println(large.Improve(p, start, 9))
	fmt.Println(large.PackCost(p, []int{1, 2, 3}))
	fmt.Println(large.Packs(p))
	fmt.Println(large.Bound(p, []api.Pack{{Rules: []int{1, 2}}, {Rules: []int{3}}}))

	c, e := large.Build(p, 9)
	fmt.Println(c, e)
	fmt.Println(large.CheckCertificate(p, c), large.Gap(c))
	// Output:
	// [0 0 1 1]
	// [0 0 1 0]
	// [2 3] [1] 0 weigh 5 beside carl dora
	// {[0 1 3 4] 2} 0
	// [0 1 2 3] 0
	// [0 1 4 3] 1 0
	// 1 0
	// [{[1 2 3] 1}] 0
	// 0 0
	// {[0 1 3 4] 2 [{[1 2 3] 1}] 1} 0
	// 0 1
}
