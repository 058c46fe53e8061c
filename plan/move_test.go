package plan_test

import (
	"math/rand"
	"slices"
	"testing"

	"trestle/api"
	"trestle/hall"
	"trestle/plan"
)

// P5.5: the number of positions at which lists differ.
func TestMoved(t *testing.T) {
	for _, x := range []struct {
		a, b []int
		n    int
	}{
		{nil, nil, 0}, {nil, []int{}, 0}, {nil, []int{1}, 0}, {[]int{1, 2}, []int{2}, 0}, {[]int{1}, []int{1, 2}, 0},
		{[]int{1, 2, 3}, []int{1, 2, 3}, 0}, {[]int{1, 2, 3}, []int{3, 2, 1}, 2}, {[]int{-1, 7, -9}, []int{0, -1, 3}, 3}, {strange(), strange(), 0},
	} {
		a, b := slices.Clone(x.a), slices.Clone(x.b)
		if plan.Moved(x.a, x.b) != x.n || plan.Moved(x.b, x.a) != x.n || !slices.Equal(a, x.a) || !slices.Equal(b, x.b) {
			t.Errorf("%v and %v: %d", x.a, x.b, plan.Moved(x.a, x.b))
		}
	}
}

// movesOf returns the moves from a partial plan to another one, word by word as the chapter tells of them.
func movesOf(a, b []int) []api.Move {
	now := slices.Clone(a)
	var l []api.Move
	for {
		away, ready := -1, -1
		for g := range b {
			if now[g] == b[g] {
				continue
			}
			if away < 0 {
				away = g
			}
			if ready < 0 && (b[g] == -1 || !slices.Contains(now, b[g])) {
				ready = g
			}
		}
		switch {
		case away < 0:
			return l
		case ready >= 0:
			l = append(l, api.Move{Guest: ready, From: now[ready], To: b[ready]})
			now[ready] = b[ready]
		default:
			l = append(l, api.Move{Guest: away, From: now[away], To: -1})
			now[away] = -1
		}
	}
}

// rings returns the number of rings of guests who all want the seat of the next one.
func rings(a, b []int) int {
	n := 0
	for start := range a {
		g := start
		for range a {
			g = slices.Index(a, b[g])
			// A ring is counted at its first guest.
			if g <= start || a[g] == b[g] || b[g] < 0 {
				break
			}
		}
		if g == start && a[g] != b[g] && b[g] >= 0 {
			n++
		}
	}
	return n
}

// P5.5: the moves from any partial plan to any other one, and that they are made.
func TestMoves(t *testing.T) {
	r := rand.New(rand.NewSource(7))
	ringed := 0
	for range 3000 {
		p := anyProblem(r, 8)
		a, b := anyPart(r, p, r.Intn(2) == 0), anyPart(r, p, r.Intn(2) == 0)
		if r.Intn(3) == 0 {
			// They sit on the same seats.
			b = slices.Clone(a)
			r.Shuffle(len(b), func(i, k int) { b[i], b[k] = b[k], b[i] })
		}
		first, second := slices.Clone(a), slices.Clone(b)
		asked := movesOf(a, b)
		got, e := plan.Moves(p, a, b)
		if !slices.Equal(got, asked) || e != api.OK {
			t.Fatalf("from %v to %v: %v, %d, not %v", a, b, got, e, asked)
		}
		if len(got) != plan.Moved(a, b)+rings(a, b) {
			t.Fatalf("from %v to %v: %d moves, %d moved and %d rings", a, b, len(got), plan.Moved(a, b), rings(a, b))
		}
		ringed += rings(a, b)
		end, i, e := plan.Do(p, a, got)
		if !slices.Equal(end, b) || i != 0 || e != api.OK || !slices.Equal(got, asked) {
			t.Fatalf("from %v to %v: at %v, %d, %d", a, b, end, i, e)
		}
		for g := range end {
			end[g] = -7
		}
		if !slices.Equal(a, first) || !slices.Equal(b, second) {
			t.Fatal("a partial plan is changed")
		}
	}
	if ringed < 300 {
		t.Errorf("only %d rings", ringed)
	}
}

// walk returns moves, of which the guest, the seat and the new seat are given.
func walk(l [][3]int) []api.Move {
	var moves []api.Move
	for _, x := range l {
		moves = append(moves, api.Move{Guest: x[0], From: x[1], To: x[2]})
	}
	return moves
}

// P5.5: the chapter's examples, and some more.
func TestMovesExamples(t *testing.T) {
	for _, x := range []struct {
		a, b []int
		l    [][3]int
	}{
		{[]int{0, 1, 2}, []int{0, 1, 2}, nil},
		{[]int{0, 1, 2}, []int{1, 2, 0}, [][3]int{{0, 0, -1}, {2, 2, 0}, {1, 1, 2}, {0, -1, 1}}},
		{[]int{0, 1, -1}, []int{1, 4, 0}, [][3]int{{1, 1, 4}, {0, 0, 1}, {2, -1, 0}}},
		{[]int{-1, 1, 0}, []int{1, 0, 5}, [][3]int{{2, 0, 5}, {1, 1, 0}, {0, -1, 1}}},
		{[]int{0, -1, -1}, []int{-1, -1, 0}, [][3]int{{0, 0, -1}, {2, -1, 0}}},
		{[]int{0, 1, 2}, []int{-1, -1, -1}, [][3]int{{0, 0, -1}, {1, 1, -1}, {2, 2, -1}}},
		{[]int{-1, -1, -1}, []int{2, 1, 0}, [][3]int{{0, -1, 2}, {1, -1, 1}, {2, -1, 0}}},
		{[]int{0, 1, 2}, []int{5, 2, 1}, [][3]int{{0, 0, 5}, {1, 1, -1}, {2, 2, 1}, {1, -1, 2}}},
	} {
		l := walk(x.l)
		got, e := plan.Moves(dinner(), x.a, x.b)
		end, i, f := plan.Do(dinner(), x.a, l)
		if !slices.Equal(got, l) || e != api.OK || !slices.Equal(end, x.b) || i != 0 || f != api.OK {
			t.Errorf("from %v to %v: %v, %d; at %v, %d, %d", x.a, x.b, got, e, end, i, f)
		}
	}
	// Two rings, the first guest of one of them among those of the other one.
	p := feast(5, api.Table{Shape: api.Row, A: 5})
	got, e := plan.Moves(p, []int{0, 1, 2, 3, 4}, []int{3, 2, 4, 0, 1})
	if asked := walk([][3]int{{0, 0, -1}, {3, 3, 0}, {0, -1, 3}, {1, 1, -1}, {4, 4, 1}, {2, 2, 4}, {1, -1, 2}}); !slices.Equal(got, asked) || e != api.OK {
		t.Errorf("two rings: %v, %d", got, e)
	}
	// All guests of the largest problem go round.
	p = feast(64, slices.Repeat([]api.Table{{Shape: api.Row, A: 4}}, 16)...)
	var a, b []int
	for g := range 64 {
		a, b = append(a, g), append(b, (g+1)%64)
	}
	if got, e := plan.Moves(p, a, b); len(got) != 65 || e != api.OK || got[64] != (api.Move{Guest: 0, From: -1, To: 1}) {
		t.Errorf("a ring of all: %v, %d", got, e)
	}
}

// done returns what Do is to say of moves in a valid problem.
func done(p api.Problem, part []int, l []api.Move) ([]int, int, api.Errno) {
	now := slices.Clone(part)
	for i, m := range l {
		if m.Guest < 0 || m.Guest >= len(now) || now[m.Guest] != m.From || m.From == m.To {
			return nil, i, api.ErrArg
		}
		if m.To < -1 || m.To >= hall.Count(p.Tables) {
			return nil, i, api.ErrSeat
		}
		if m.To >= 0 && slices.Contains(now, m.To) {
			return nil, i, api.ErrTaken
		}
		now[m.Guest] = m.To
	}
	return now, 0, api.OK
}

// P5.5: moves that can be made, and moves that cannot.
func TestDo(t *testing.T) {
	r := rand.New(rand.NewSource(8))
	seen := map[api.Errno]int{}
	for range 4000 {
		p := anyProblem(r, 4)
		part := anyPart(r, p, false)
		before, now := slices.Clone(part), slices.Clone(part)
		var l []api.Move
		for range r.Intn(6) {
			if len(now) == 0 {
				break
			}
			m := api.Move{Guest: r.Intn(len(now)), To: r.Intn(hall.Count(p.Tables)+1) - 1}
			m.From = now[m.Guest]
			switch r.Intn(20) {
			case 0:
				m.Guest = pick(r, append(strange(), len(now))...)
			case 1:
				m.From = pick(r, strange()...)
			case 2:
				m.To = pick(r, append(strange(), hall.Count(p.Tables))...)
			}
			l = append(l, m)
			if next, _, e := done(p, now, []api.Move{m}); e == api.OK {
				now = next
			} else if r.Intn(2) == 0 {
				l = l[:len(l)-1]
			}
		}
		moves := slices.Clone(l)
		got, i, e := plan.Do(p, part, l)
		end, at, asked := done(p, part, l)
		if !slices.Equal(got, end) || i != at || e != asked {
			t.Fatalf("%v in %v: %v, %d, %d, not %v, %d, %d", l, part, got, i, e, end, at, asked)
		}
		for g := range got {
			got[g] = -7
		}
		if !slices.Equal(part, before) || !slices.Equal(l, moves) {
			t.Fatal("an argument is changed")
		}
		seen[e]++
	}
	for _, e := range []api.Errno{api.OK, api.ErrArg, api.ErrSeat, api.ErrTaken} {
		if seen[e] < 50 {
			t.Errorf("error %d only %d times", e, seen[e])
		}
	}
}

// P5.5: examples of wrong moves, and what of each is told first.
func TestDoExamples(t *testing.T) {
	for _, x := range []struct {
		m api.Move
		e api.Errno
	}{
		{api.Move{Guest: 0, From: 0, To: 5}, api.OK},
		{api.Move{Guest: 0, From: 0, To: -1}, api.OK},
		{api.Move{Guest: 2, From: -1, To: 5}, api.OK},
		{api.Move{Guest: 3, From: 0, To: 5}, api.ErrArg},
		{api.Move{Guest: -1, From: 0, To: 5}, api.ErrArg},
		{api.Move{Guest: 3, From: -1, To: 6}, api.ErrArg},
		{api.Move{Guest: 0, From: 1, To: 5}, api.ErrArg},
		{api.Move{Guest: 0, From: -1, To: 5}, api.ErrArg},
		{api.Move{Guest: 0, From: 2, To: 6}, api.ErrArg},
		{api.Move{Guest: 0, From: 2, To: 1}, api.ErrArg},
		{api.Move{Guest: 0, From: 0, To: 0}, api.ErrArg},
		{api.Move{Guest: 2, From: -1, To: -1}, api.ErrArg},
		{api.Move{Guest: 2, From: -2, To: -2}, api.ErrArg},
		{api.Move{Guest: 0, From: 0, To: 6}, api.ErrSeat},
		{api.Move{Guest: 0, From: 0, To: -2}, api.ErrSeat},
		{api.Move{Guest: 0, From: 0, To: 1}, api.ErrTaken},
		{api.Move{Guest: 2, From: -1, To: 0}, api.ErrTaken},
	} {
		there := []api.Move{{Guest: 1, From: 1, To: 3}, {Guest: 1, From: 3, To: 1}}
		// A wrong move behind it is not told of.
		got, i, e := plan.Do(dinner(), []int{0, 1, -1}, append(there, x.m, api.Move{Guest: 9}))
		if asked := max(x.e, api.ErrArg); len(got) != 0 || x.e == api.OK && i != 3 || x.e != api.OK && i != 2 || e != asked {
			t.Errorf("%v: %v, %d, %d", x.m, got, i, e)
		}
	}
	got, i, e := plan.Do(api.Problem{}, nil, []api.Move{{}})
	end, k, f := plan.Do(api.Problem{}, nil, nil)
	if len(got) != 0 || i != 0 || e != api.ErrArg || len(end) != 0 || k != 0 || f != api.OK {
		t.Error("nobody moves", got, i, e, end, k, f)
	}
}

// P5.5: the problem's error comes first, then that of the first partial plan, then that of the second one, or of the moves.
func TestMovesErrors(t *testing.T) {
	for _, x := range fails() {
		l, e := plan.Moves(x.p, []int{0, 1, 2}, []int{0, 0, 2})
		end, i, f := plan.Do(x.p, []int{0, 0, 2}, []api.Move{{}, {Guest: -1}})
		if len(l) != 0 || e != x.e || len(end) != 0 || i != 0 || f != x.e {
			t.Errorf("%v: %v %d, %v %d %d, not %d", x.p, l, e, end, i, f, x.e)
		}
	}
	for _, x := range []struct {
		a, b []int
		e    api.Errno
	}{
		{[]int{0, 1}, []int{0, 1, 6}, api.ErrStale},
		{[]int{0, 1, 6}, []int{0, 1}, api.ErrSeat},
		{[]int{0, 1, 1}, []int{0, 1, 6}, api.ErrTaken},
		{[]int{0, 1, 2}, nil, api.ErrStale},
		{[]int{0, 1, 2}, []int{0, 1, -2}, api.ErrSeat},
		{[]int{0, 1, 2}, []int{4, 4, 9}, api.ErrTaken},
		{[]int{0, 1}, []int{0, 1}, api.ErrStale},
	} {
		if l, e := plan.Moves(dinner(), x.a, x.b); len(l) != 0 || e != x.e {
			t.Errorf("from %v to %v: %v, %d", x.a, x.b, l, e)
		}
	}
	for _, x := range []struct {
		part []int
		e    api.Errno
	}{{nil, api.ErrStale}, {[]int{0, 1, 6}, api.ErrSeat}, {[]int{0, 1, 1}, api.ErrTaken}} {
		if end, i, e := plan.Do(dinner(), x.part, []api.Move{{Guest: 0, From: 0, To: 5}, {Guest: 9}}); len(end) != 0 || i != 0 || e != x.e {
			t.Errorf("%v: %v, %d, %d", x.part, end, i, e)
		}
	}
}
