package vestry_test

import (
	"fmt"

	"parvise/api"
	"parvise/vestry"
)

// The example of README.md.
func Example() {
	story, line, e := vestry.Transcript("holes 2\nshelve 5\nshelve 7\nglimpse 0 0 0 1 0 0 5\nsure 0 1\nsure 0 -1\n")
	fmt.Print(story)
	fmt.Println(line, e)
	line, e = vestry.Accept(story)
	fmt.Println(line, e)
	line, e = vestry.Accept("> holes 2\n< ok\n> shelve 5\n< no\n")
	fmt.Println(line, e)
	_, line, e = vestry.Run("holes 2\n# The next line lacks a number.\nshelve\n")
	fmt.Println(line, e)

	v := vestry.New()
	c, at, e := vestry.Parse("give 0 1 1")
	fmt.Println(c, at, e)
	fmt.Println(v.Do(c), v.Do(c), v.Do(api.Command{Kind: api.CmdCarried, Args: []int{1}}))
	fmt.Println(v.Desk(0).Now.Holds)
	deeds, e := vestry.Deeds(api.Book{Records: []api.Record{{Kind: api.RecDeed, Known: 5, Text: "1 0 11 1 1"}}})
	fmt.Println(deeds, e)
	// Output:
	// > holes 2
	// < ok
	// > shelve 5
	// < ok
	// > shelve 7
	// < ok
	// > glimpse 0 0 0 1 0 0 5
	// < record 0 0
	// > sure 0 1
	// < 5 1
	// < 7 2
	// > sure 0 -1
	// < error 6
	// 0 0
	// 0 0
	// 4 101
	// 3 100
	// {41 [0 1 1]} 0 0
	// [ok] [error 95] [0 1]
	// [2 3]
	// [{{0 0} 1 0 11 {1 1} 5 0}] 0
}
