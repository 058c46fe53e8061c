package guest_test

import (
	"fmt"

	"trestle/api"
	"trestle/guest"
)

// The example of README.md.
func Example() {
	roll, line, e := guest.Parse("guest anna duchess france 1998 1 - ha french latin\nguest boris - - 0 0 fish - french\nguest carl - - 0 0 - - latin\nfeud anna boris\n")
	fmt.Println(line, e)
	book, _, _ := guest.Load(roll)
	fmt.Println(book.Tie("carl", "anna", api.Friend), book.Tie("anna", "carl", api.Feud))
	fmt.Println(book.With("anna", api.Friend), book.Common("anna", "boris"))
	fmt.Println(book.Chain("boris", "carl"))
	fmt.Println(book.Circles(), book.Diets())
	fmt.Println(book.Camps())
	fmt.Println(book.Rename("boris", "zoe"), guest.Format(book.Roll()))
	// Output:
	// 0 0
	// 0 5
	// [carl] [french]
	// [boris anna carl] true
	// [[anna carl] [boris]] [{ 2} {fish 1}]
	// [0 1 0] []
	// 0 guest anna duchess france 1998 1 - ha french latin
	// guest zoe - - 0 0 fish - french
	// guest carl - - 0 0 - - latin
	// friend anna carl
	// feud anna zoe
}
