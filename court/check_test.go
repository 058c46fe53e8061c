package court_test

import (
	"math"
	"slices"
	"strings"
	"testing"

	"trestle/api"
	"trestle/court"
)

// row is a row of the chapter's table of kinds.
type row struct {
	kind        api.ClauseKind
	names       bool
	least, most int
	last, among bool
}

var rows = []row{
	{api.ByRank, true, 0, 0, false, false},
	{api.ByElder, false, 0, 0, false, true},
	{api.ByYouth, false, 0, 0, false, true},
	{api.BySide, false, 1, 2, true, true},
	{api.ByHost, false, 0, 0, true, true},
	{api.ByTongue, true, 0, 0, true, true},
	{api.ByCourt, true, 0, 0, true, true},
	{api.ByName, false, 0, 0, false, true},
	{api.ByList, false, 0, 0, false, true},
	{api.ByLot, false, 0, 63, false, true},
}

// P3.1: which fields a clause of each kind may have.
func TestCheckFields(t *testing.T) {
	ladder := api.Clause{Kind: api.ByRank, Names: []string{"king", "duke"}}
	for kind := range 256 {
		i := slices.IndexFunc(rows, func(x row) bool { return int(x.kind) == kind })
		for _, n := range []int{math.MinInt, -1, 0, 1, 2, 3, 4, 62, 63, 64, 65, math.MaxInt} {
			for _, many := range []int{0, 1, 2, 15, 16, 17, 40} {
				for _, last := range []bool{false, true} {
					for _, among := range []string{"", "duke"} {
						x := api.Clause{Kind: api.ClauseKind(kind), N: n, Names: names(many), Last: last, Among: among}
						at, e := 1, api.ErrClause
						if i >= 0 && n >= rows[i].least && n <= rows[i].most && rows[i].names == (many > 0) && many <= court.MaxNames &&
							(rows[i].last || !last) && (rows[i].among || among == "") {
							at, e = 0, api.OK
						}
						if gotAt, got := court.Check([]api.Clause{ladder, x}); gotAt != at || got != e {
							t.Fatalf("%v: %d, %d, not %d, %d", x, gotAt, got, at, e)
						}
					}
				}
			}
		}
	}
}

// P3.1: Names and Among have to be names, and no name is in Names twice.
func TestCheckNames(t *testing.T) {
	ladder := api.Clause{Kind: api.ByRank, Names: []string{"king", "duke"}}
	for _, kind := range []api.ClauseKind{api.ByRank, api.ByTongue, api.ByCourt} {
		for _, wrong := range append(wrongNames, "") {
			for _, list := range [][]string{{wrong}, {"a", wrong}, {wrong, "a", "b"}, {"a", "a", wrong}} {
				if i, e := court.Check([]api.Clause{ladder, {Kind: kind, Names: list}}); i != 1 || e != api.ErrName {
					t.Errorf("%d with %.40q: %d, %d", kind, list, i, e)
				}
			}
		}
		for _, list := range [][]string{{"a", "a"}, {"b", "a", "b"}, {"a", "b", "c", "c"}, append(names(15), "a")} {
			if i, e := court.Check([]api.Clause{ladder, {Kind: kind, Names: list}}); i != 1 || e != api.ErrTwice {
				t.Errorf("%d with %q: %d, %d", kind, list, i, e)
			}
		}
		for _, list := range [][]string{{"z"}, {"abcdefghijkl", "mnopqrstuvwx", "yz"}, {"b", "a"}, {"a", "aa"}, {"king"}} {
			if i, e := court.Check([]api.Clause{ladder, {Kind: kind, Names: list}}); i != 0 || e != api.OK {
				t.Errorf("%d with %q: %d, %d", kind, list, i, e)
			}
		}
	}
	for _, x := range rows {
		for _, wrong := range wrongNames {
			c := api.Clause{Kind: x.kind, N: x.least, Among: wrong}
			e := api.ErrName
			if x.names {
				c.Names = []string{"a", "a"}
			}
			if !x.among {
				e = api.ErrClause
			}
			if i, got := court.Check([]api.Clause{ladder, c}); i != 1 || got != e {
				t.Errorf("%d among %.20q: %d, %d", x.kind, wrong, i, got)
			}
		}
	}
}

// P3.1: Among has to be in an earlier ladder.
func TestCheckAmong(t *testing.T) {
	elder := func(among string) api.Clause { return api.Clause{Kind: api.ByElder, Among: among} }
	ladder := func(list ...string) api.Clause { return api.Clause{Kind: api.ByRank, Names: list} }
	for _, x := range []struct {
		c []api.Clause
		i int
		e api.Errno
	}{
		{[]api.Clause{ladder("king", "duke"), elder("duke")}, 0, api.OK},
		{[]api.Clause{ladder("king", "duke"), elder("king"), elder(""), elder("duke")}, 0, api.OK},
		{[]api.Clause{ladder("king"), ladder("duke"), elder("king"), elder("duke")}, 0, api.OK},
		{[]api.Clause{ladder("king"), elder("king"), ladder("duke"), elder("duke")}, 0, api.OK},
		{[]api.Clause{elder("king")}, 0, api.ErrAmong},
		{[]api.Clause{elder("king"), ladder("king")}, 0, api.ErrAmong},
		{[]api.Clause{ladder("king"), elder("duke"), ladder("duke")}, 1, api.ErrAmong},
		{[]api.Clause{ladder("king"), elder("kin")}, 1, api.ErrAmong},
		{[]api.Clause{ladder("king"), elder("kings")}, 1, api.ErrAmong},
		{[]api.Clause{ladder("king"), elder("king"), elder("duke")}, 2, api.ErrAmong},
		{[]api.Clause{{Kind: api.ByTongue, Names: []string{"king"}}, elder("king")}, 1, api.ErrAmong},
		{[]api.Clause{{Kind: api.ByCourt, Names: []string{"king"}}, elder("king")}, 1, api.ErrAmong},
		{[]api.Clause{ladder("duke"), {Kind: api.ByTongue, Names: []string{"latin"}, Among: "latin"}}, 1, api.ErrAmong},
	} {
		if i, e := court.Check(x.c); i != x.i || e != x.e {
			t.Errorf("%v: %d, %d, not %d, %d", x.c, i, e, x.i, x.e)
		}
	}
}

// P3.1: the first clause with an error decides, and of its errors the one named first; too many clauses are worse than any.
func TestCheckOrder(t *testing.T) {
	form, name := api.Clause{Kind: api.ByRank, Names: []string{"A", "A"}, N: 1}, api.Clause{Kind: api.ByCourt, Names: []string{"a", "a", "A"}, Among: "q"}
	twice, among := api.Clause{Kind: api.ByTongue, Names: []string{"a", "a"}, Among: "q"}, api.Clause{Kind: api.ByName, Among: "q"}
	fine := api.Clause{Kind: api.ByLot, N: 63}
	wrong := []struct {
		x api.Clause
		e api.Errno
	}{{form, api.ErrClause}, {name, api.ErrName}, {twice, api.ErrTwice}, {among, api.ErrAmong}}
	for _, one := range wrong {
		for _, other := range wrong {
			for n := range 5 {
				c := append(slices.Repeat([]api.Clause{fine}, n), one.x, fine, other.x)
				if i, e := court.Check(c); i != n || e != one.e {
					t.Errorf("%v: %d, %d, not %d, %d", c, i, e, n, one.e)
				}
			}
		}
		for _, n := range []int{0, 31} {
			c := slices.Repeat([]api.Clause{fine}, 32)
			c[n] = one.x
			if i, e := court.Check(c); i != n || e != one.e {
				t.Errorf("32 clauses: %d, %d, not %d, %d", i, e, n, one.e)
			}
			if i, e := court.Check(append(c, fine)); i != 0 || e != api.ErrMany {
				t.Errorf("33 clauses: %d, %d", i, e)
			}
		}
	}
	for _, x := range []struct {
		n int
		e api.Errno
	}{{0, api.OK}, {1, api.OK}, {32, api.OK}, {33, api.ErrMany}, {100000, api.ErrMany}} {
		if i, e := court.Check(slices.Repeat([]api.Clause{fine}, x.n)); i != 0 || e != x.e {
			t.Errorf("%d clauses: %d, %d", x.n, i, e)
		}
	}
	if i, e := court.Check([]api.Clause{{Kind: api.ByRank, Names: make([]string, 100000)}}); i != 0 || e != api.ErrClause {
		t.Error("many names", i, e)
	}
	if i, e := court.Check([]api.Clause{{Kind: api.ByRank, Names: []string{strings.Repeat("a", 12)}}}); i != 0 || e != api.OK {
		t.Error("a long name", i, e)
	}
}
