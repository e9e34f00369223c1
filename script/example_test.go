package script_test

import (
	"fmt"

	"astragal/api"
	"astragal/config"
	"astragal/family"
	"astragal/lemire"
	"astragal/script"
	"astragal/stream"
	"astragal/tape"
)

// The uses that README.md shows.

func Example_number() {
	t := tape.New([]uint64{1 << 63, 1<<63 + 1})
	d, e := lemire.Take(t, 10)
	fmt.Println(d.N, d.Used, e == api.OK)
	// Output: 5 2 true
}

func Example_hash() {
	h, _ := stream.New(api.Xx32, api.U128{})
	h.Write([]byte("a"))
	h.Write([]byte("bc"))
	sum, _ := h.Sum()
	once, _ := stream.One(api.Xx32, api.U128{}, []byte("abc"))
	fmt.Printf("%x %x\n", sum, once)
	// Output: ff53d132 ff53d132
}

func Example_aim() {
	s := api.Seed{Kind: api.FamPoly, Bits: 61, Words: []uint64{1, 2}}
	value, _ := family.Eval(s, 3)
	aimed, _ := family.Shift(s, []uint64{3}, []uint64{0})
	fmt.Println(value, aimed.Words)
	// Output: 7 [2305843009213693945 2]
}

func ExampleRun() {
	b, _ := config.Encode(config.Config{What: config.Source, Kind: api.Split, Words: []uint64{0}})
	out, e, line := script.Run("create "+script.Bytes(b)+"\nnext 16\nderive 0 0 -\n", 4)
	fmt.Print(out)
	fmt.Println(e == api.OK, line)
	// Output:
	// ok 16
	// ok 16294208416658607535
	// ok 0 0
	// true 0
}
