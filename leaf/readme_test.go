package leaf_test

import (
	"fmt"

	"parvise/api"
	"parvise/leaf"
)

// The example of README.md.
func Example() {
	h := api.Heap{Strays: []api.Stray{
		{Id: 1, Paper: 3, First: 10, Catch: 20, Holes: 1},
		{Id: 2, Paper: 3, First: 20, Catch: 30, Holes: 3},
		{Id: 4, Paper: 3, First: 30, Holes: 2},
		{Id: 7, Paper: 3, Unsure: 2},
	}}
	fmt.Println(leaf.Order(h, 3))
	fmt.Println(leaf.Count(h, 3))
	fmt.Println(leaf.Sure(h, 3))
	h.Strays[0].Holes, h.Strays[2].Holes = 5, 6
	fmt.Println(leaf.Conflict(h, 3))
	// Output:
	// [1 2 4 7] 0
	// 3 0
	// [{1 2}] 0
	// [0 1 2] 0
}
