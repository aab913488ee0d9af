package loan_test

import (
	"fmt"

	"parvise/api"
	"parvise/loan"
)

// The example of README.md.
func Example() {
	l := api.Ledger{
		Papers:   []api.Paper{{Id: 4, Leaves: 2}},
		Receipts: []api.Receipt{{Source: 1, Borrower: 50, Paper: 4, Leaves: []int{1, 2}, Day: 10}},
		Returns:  []api.Return{{Source: 2, Receipt: 1, Person: 50, Leaves: []int{1}, Day: api.Range{Lo: 20, Hi: 25}}},
	}
	fmt.Println(loan.Where(l, api.Folio{Paper: 4, Leaf: 1}, 22, 0))
	fmt.Println(loan.Has(l, 50, 30, 0))
	// Output:
	// [0 50] 0
	// [{4 2}] 0
}
