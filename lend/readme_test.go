package lend_test

import (
	"fmt"

	"parvise/api"
	"parvise/lend"
)

// The example of README.md.
func Example() {
	zero, e := lend.New(0, []int{7, 9})
	one, e := lend.New(1, nil)
	zero, e = lend.Send(zero, 7, 1)
	zero, e = lend.Write(zero)
	bag, e := lend.Pack(zero, 1)
	fmt.Println(len(bag.Parcels), e)
	zero, e = lend.Dry(zero)
	bag, e = lend.Pack(zero, 1)
	fmt.Println(bag.Parcels, e)
	ways, e := lend.Carried([]api.Desk{zero, one}, 7)
	fmt.Println(ways, e)
	one, e = lend.Open(one, bag)
	at, e := lend.Where([]api.Desk{zero, one}, 7)
	fmt.Println(at, e)
	flooded, e := lend.Flood(one, 1)
	held, e := lend.Holds(flooded)
	fmt.Println(held, e)
	flooded, e = lend.Open(flooded, bag)
	held, e = lend.Holds(flooded)
	fmt.Println(held, e)
	text, e := lend.Print(flooded.Now)
	fmt.Print(text, e)
	// Output:
	// 0 0
	// [{1 7}] 0
	// [[0 1]] 0
	// [1] 0
	// [] 0
	// [7] 0
	// holds 7
	// sent 0 0 0 0 0 0
	// taken 1 0 0 0 0 0
	// 0
}
