package due_test

import (
	"fmt"

	"parvise/api"
	"parvise/due"
)

// The example of README.md.
func Example() {
	a := api.Account{
		Rules:    []api.Rule{{From: 0, Daily: 2, Leaf: 50}},
		Lents:    []api.Lent{{Source: 1, Borrower: 7, Paper: 4, Day: 10, Due: 40, Leaves: 2}},
		Askings:  []api.Asking{{Source: 2, Loan: 1, Day: 50, Known: 50}},
		Backs:    []api.Back{{Source: 3, Loan: 1, Leaves: 1, Day: api.Range{Lo: 55, Hi: 60}, Known: 70}},
		Sureties: []api.Surety{{Source: 4, Loan: 1, Person: 8, Worth: 100}},
	}
	fmt.Println(due.Late(a, 1, 70))
	fmt.Println(due.Fine(a, 1, 70))
	fmt.Println(due.Owed(a, 1, 70))
	fmt.Println(due.Shares(a, 1, 111))
	fmt.Println(due.Posts(a, []int{65, 70, 111}))
	// Output:
	// {25 30} 0
	// {50 60} 0
	// 50 0
	// [{7 32} {8 100}] 0
	// [{65 1 7 60} {70 1 7 -10} {111 1 7 -18} {111 1 8 100}] 0
}
