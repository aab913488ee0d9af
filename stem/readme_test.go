package stem_test

import (
	"fmt"

	"parvise/stem"
)

// The example of README.md.
func Example() {
	s, line, e := stem.Parse("costs 2 9 1 4\ncopy 1 10 20 31\ncopy 2 10 20 30\ncopy 3 10 0 31\n")
	fmt.Println(len(s.Copies), line, e)
	fmt.Println(stem.Fewest(s))
	fmt.Println(stem.Pedigree(s))
	fmt.Println(stem.Agreed(s))
	fmt.Println(stem.Parent(s, 1, 3))
	// Output:
	// 3 0 0
	// 3 0
	// [0 1 1] 0
	// [10 20 -1] 0
	// 1 0
}
