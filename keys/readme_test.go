package keys_test

import (
	"fmt"

	"parvise/keys"
)

// The example of README.md.
func Example() {
	deeds, line, e := keys.Parse("deed 0 0 1 0 11 10 10 0 0\ndeed 0 1 3 1 11 12 20 0 0\n")
	fmt.Println(len(deeds), line, e)
	fmt.Println(keys.Holders(deeds, 1, 15, 0))
	fmt.Println(keys.InOffice(deeds, 11, 15, 0))
	// Output:
	// 2 0 0
	// [0 11] 0
	// 1 0
}
