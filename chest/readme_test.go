package chest_test

import (
	"fmt"

	"parvise/chest"
)

// The example of README.md.
func Example() {
	l, line, e := chest.Parse("opening 1 1 10 30 1 0 0 in 5 7 out 9\nopening 2 1 40 60 0 0 0 in 5 out 7\nopening 3 2 20 45 2 8 0 in 9 out 5\n")
	fmt.Println(line, e)
	fmt.Println(chest.Fewest(l, 7))
	fmt.Println(chest.False(l, 8))
	fmt.Println(chest.True(l, 1, 8))
	fmt.Println(chest.Inside(l, 9, 25, 8))
	fmt.Println(chest.Unlawful(l, 8))
	// Output:
	// 0 0
	// 0 0
	// [3] 0
	// 1 0
	// 0 0
	// [2] 0
}
