package office_test

import (
	"fmt"

	"trestle/office"
)

// The example of README.md.
func Example() {
	o := office.New()
	fmt.Println(o.Do("table sun round 4 0 3 0"))
	fmt.Print(o.Run("table bar row 2 0 0 2\nguest anna duchess - 0 0 - h\nguest boris - - 0 0 fish -\nguest carl - - 0 0 - -\n"))
	fmt.Print(o.Run("clause rank duchess\nfeud anna boris\nrule hard peace -\nrule weigh 3 beside anna carl\n"))

	fmt.Println(o.Do("show"))
	fmt.Println(o.Do("solve"))
	fmt.Println(o.Do("prove"))
	fmt.Println(o.Do("show"))
	fmt.Println(o.Do("why boris"))
	fmt.Println(o.Do("late guest dora - - 0 0 - -"))
	fmt.Println(o.Do("demand hard beside anna boris"))
	fmt.Println(o.Do("route"))

	plan, planned := o.Plan()
	fmt.Println(plan, planned)
	fmt.Println(o.Problem().Class)
	reasons, e := o.Why("boris")
	fmt.Println(reasons[3], e)
	fmt.Print(o.Log())

	again, n, e := office.Recover(o.Log())
	fmt.Println(again.Text() == o.Text(), n, e)
	again, n, e = office.Recover(o.Text())
	fmt.Println(again.Text() == o.Text(), n, e)
	again, n, e = office.Recover("moves 3\nbegin\nstate\n")
	fmt.Println(again == nil, n, e)
	// Output:
	// tables 1 0
	// tables 2
	// guests 1
	// guests 2
	// guests 3
	// clauses 1
	// ties 1
	// rules 1
	// rules 2
	//  121
	// cost 0 0
	// best 0
	// anna sun 0 / boris bar 0 / carl sun 1 0
	// sun 0 more 3 / sun 1 hard 0 / sun 2 hard 0 / sun 3 hard 0 / bar 1 same 0
	// moved 0 cost 0 0
	//  9
	// length 10 sun bar 0
	// [0 4 1 2] true
	// [0 1 1 1]
	// {3 -1 0 0} 0
	// table sun round 4 0 3 0
	// table bar row 2 0 0 2
	// guest anna duchess - 0 0 - h
	// guest boris - - 0 0 fish -
	// guest carl - - 0 0 - -
	// clause rank duchess
	// feud anna boris
	// rule hard peace -
	// rule weigh 3 beside anna carl
	// solve
	// late guest dora - - 0 0 - -
	// true 11 0
	// true 16 0
	// true 2 122
}
