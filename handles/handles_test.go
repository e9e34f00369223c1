package handles

import (
	"maps"
	"math"
	"math/rand/v2"
	"slices"
	"testing"

	"astragal/api"
)

// P48.1
func TestRoom(t *testing.T) {
	for room, want := range map[int]int{-1: 1, 0: 1, 1: 1, 7: 7, 16: 16, 17: 16, math.MinInt: 1, math.MaxInt: 16} {
		table := New[string](room)
		if table.Room() != want || table.Len() != 0 || table.All() != nil {
			t.Error(room, table.Room(), table.Len(), table.All())
		}
		for i := range want {
			if h, e := table.Put("x"); h != uint64(16+i) || e != api.OK {
				t.Error(room, i, h, e)
			}
		}
		if h, e := table.Put("x"); h != 0 || e != api.ErrFull || table.Len() != want {
			t.Error("full", room, h, e)
		}
	}
	table := New[int](4)
	first, _ := table.Put(1)
	if first != 16 {
		t.Error("the chapter's example", first)
	}
	table.Drop(first)
	if second, _ := table.Put(2); second != 32 {
		t.Error("the chapter's example", second)
	}
	if x, e := table.Get(first); x != 0 || e != api.ErrHandle {
		t.Error("a handle of a dropped thing", x, e)
	}
}

// P48.1, P48.2: against a plain list of places.
func TestLikeLists(t *testing.T) {
	r := rand.New(rand.NewPCG(48, 1))
	for range 200 {
		room := 1 + r.IntN(16)
		table := New[int](room)
		things := map[uint64]int{}
		stored := make([]uint64, room)
		taken := make([]uint64, room)
		var given []uint64
		for step := range 200 {
			h := uint64(r.IntN(400))
			if len(given) > 0 && r.IntN(2) == 0 {
				h = given[r.IntN(len(given))]
			}
			x, there := things[h]
			want := api.OK
			if !there {
				want = api.ErrHandle
			}
			switch r.IntN(4) {
			case 0:
				free := slices.Index(taken, 0)
				got, e := table.Put(step)
				if free < 0 {
					if got != 0 || e != api.ErrFull {
						t.Fatal("full", got, e)
					}
					break
				}
				stored[free]++
				wanted := uint64(free) + 16*stored[free]
				if got != wanted || e != api.OK || slices.Contains(given, got) {
					t.Fatal("Put", got, wanted, e)
				}
				taken[free], things[got] = got, step
				given = append(given, got)
			case 1:
				if got, e := table.Get(h); got != x || e != want {
					t.Fatal("Get", h, got, e)
				}
			case 2:
				if e := table.Set(h, -step); e != want {
					t.Fatal("Set", h, e)
				}
				if there {
					things[h] = -step
				}
			case 3:
				if e := table.Drop(h); e != want {
					t.Fatal("Drop", h, e)
				}
				if there {
					delete(things, h)
					taken[slices.Index(taken, h)] = 0
				}
			}
			if all := slices.Sorted(maps.Keys(things)); !slices.Equal(table.All(), all) || table.Len() != len(all) || table.Room() != room {
				t.Fatal(table.All(), all)
			}
		}
	}
}

// P48.1
func TestStrangeHandles(t *testing.T) {
	table := New[string](2)
	table.Put("a")
	for _, h := range []uint64{0, 1, 15, 17, 18, 31, 32, 1<<64 - 1, 1 << 63, 1<<63 + 16} {
		if x, e := table.Get(h); x != "" || e != api.ErrHandle {
			t.Error("Get", h, x, e)
		}
		if table.Set(h, "b") != api.ErrHandle || table.Drop(h) != api.ErrHandle {
			t.Error("Set, Drop", h)
		}
	}
	if x, e := table.Get(16); x != "a" || e != api.OK {
		t.Error("Get", x, e)
	}
	all := table.All()
	all[0] = 5
	if table.All()[0] != 16 {
		t.Error("the list is shared")
	}
}

// P48.1
func TestNotMade(t *testing.T) {
	for _, table := range []*Table[string]{nil, {}} {
		if h, e := table.Put("x"); h != 0 || e != api.ErrNil {
			t.Error("Put", h, e)
		}
		if x, e := table.Get(16); x != "" || e != api.ErrNil {
			t.Error("Get", x, e)
		}
		if table.Set(16, "x") != api.ErrNil || table.Drop(16) != api.ErrNil || table.Len() != 0 || table.Room() != 0 || table.All() != nil {
			t.Error("the others")
		}
	}
}
