package service_test

import (
	"fmt"

	"trestle/api"
	"trestle/service"
)

// The example of README.md.
func Example() {
	p := api.Problem{
		Tables: []api.Table{{Name: "sun", Shape: api.Round, A: 4, X: 3}, {Name: "bar", Shape: api.Row, A: 2, Y: 2}, {Name: "end", Shape: api.Row, A: 3, X: 3, Y: 2}},
		Guests: []api.Guest{{Name: "anna", Rank: "duchess", Diet: "fish"}, {Name: "boris"}, {Name: "carl", Diet: "fish"}, {Name: "dora"}, {Name: "emil"}},
		Class:  []int{0, 1, 2, 1, 3},
	}
	part := []int{1, 2, 4, 6, -1}
	fmt.Print(service.Card(p, part, 0))
	fmt.Print(service.Names(p, part))
	fmt.Print(service.Chart(p, part, 1))
	fmt.Println(service.Plates(p, part), service.Serve(p, part))
	fmt.Println(service.Dishes(p, part))

	fmt.Println(service.Steps(p, 0, 1))
	way, length, e := service.Route(p, part)
	fmt.Println(way, length, e)
	fmt.Println(service.Length(p, []int{0, 1, 2}))
	fmt.Println(service.Span(p, part))

	trips, e := service.Trips(p, part, way, 3)
	fmt.Println(trips, e)
	fmt.Println(service.CheckTrips(p, part, trips, 3))
	fmt.Print(service.FormatTrips(p, trips))
	read, line, e := service.ParseTrips(p, "trip 3 10 sun end\ntrip 1 4 moon\n")
	fmt.Println(read, line, e)

	fmt.Println(service.Waiters(p, part, 2))
	fmt.Println(service.Load(p, part, 2))
	// Output:
	// guest anna
	// rank duchess
	// table sun 1
	// diet fish
	// beside boris
	// anna sun 1
	// boris sun 2
	// carl bar 0
	// dora end 0
	// emil -
	// table bar
	// 0 carl
	// 1 -
	// [2 1 1] [0 2 1]
	// [{0  1} {0 fish 1} {1 fish 1} {2  1}]
	// 5 true
	// [0 2 1] 10 0
	// 16 0
	// 7
	// [{[0 2] 3 10} {[1] 1 4}] 0
	// 0 0
	// trip 3 10 sun end
	// trip 1 4 bar
	// [] 1 6
	// [[0] [1 2]] 2 0
	// 2
}
