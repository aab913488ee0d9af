package vellum_test

import (
	"fmt"

	"parvise/api"
	"parvise/vellum"
)

// The example of README.md.
func Example() {
	two, e := vellum.NewParish(2)
	two, noted, e := vellum.Note(two, api.Record{Kind: 5, Day: 10, Known: 12, Text: "a key"})
	fmt.Println(noted.At, e)
	fmt.Println(vellum.Encode(noted))
	flooded, e := vellum.Restart(two, nil)
	fmt.Println(len(flooded.Log), e)
	two, letter, e := vellum.Send(two, 3)
	fmt.Println(len(letter.Records), e)
	flooded, e = vellum.Restart(two, nil)
	fmt.Println(len(flooded.Log), e)
	three, e := vellum.NewParish(3)
	three, back, e := vellum.Receive(three, letter)
	fmt.Println(len(three.Log), back[0].Seen, e)
	book, e := vellum.Sorted(three.Log)
	fmt.Println(len(book.Records), e)
	standing, e := vellum.Standing(book, 11)
	fmt.Println(len(standing), e)
	// Output:
	// {2 0} 0
	// 2 0 5 10 12 0 0 a key 0
	// 0 0
	// 1 0
	// 1 0
	// 1 1 0
	// 1 0
	// 0 0
}
