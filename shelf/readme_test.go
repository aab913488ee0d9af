package shelf_test

import (
	"fmt"

	"parvise/api"
	"parvise/shelf"
)

// The example of README.md.
func Example() {
	n := api.Inventory{Holes: 3, Papers: []int{5, 7}, Glimpses: []api.Glimpse{
		{Source: 1, Hole: 1, Marks: []int{5, 7}},
		{Source: 2, Hole: 2, Marks: []int{5}, Known: 4},
	}}
	fmt.Println(shelf.Where(n, 7, 0))
	fmt.Println(shelf.Again(n, 7, 0))
	fmt.Println(shelf.Sure(n, 4))
	// Output:
	// [1 2 3] 0
	// [1 2] 0
	// [{5 2} {7 1}] 0
}
