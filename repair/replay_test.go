package repair_test

import (
	"math/rand"
	"slices"
	"testing"

	"trestle/api"
	"trestle/repair"
	"trestle/rule"
)

// P10.6: changes one after the other, each of which is repaired.
func TestReplay(t *testing.T) {
	p, part := wider(t, ""), []int{0, 1, 2}
	quarrel, close := api.Change{Kind: api.Quarrel, A: "anna", B: "boris"}, api.Change{Kind: api.Close, Table: "w"}
	cancel, seat := api.Change{Kind: api.Cancel, A: "anna"}, api.Change{Kind: api.Demand, Rule: api.Rule{Kind: api.Seat, A: "carl", Table: "r"}}
	list, at, e := repair.Replay(p, part, []api.Change{quarrel, late("dora", 0), cancel, close, seat}, 3)
	if at != 0 || e != api.OK || len(list) != 5 {
		t.Fatal(list, at, e)
	}
	for i, x := range []struct {
		plan   []int
		moved  int
		guests int
		rules  string
	}{
		{[]int{0, 4, 2}, 1, 3, "hard apart anna boris 2\n"},
		{[]int{0, 4, 2, 1}, 0, 4, "hard apart anna boris 2\n"},
		{[]int{4, 2, 1}, 0, 3, ""},
		{[]int{0, 2, 1}, 1, 3, "hard limit w 0\n"},
		{[]int{2, 0, 1}, 2, 3, "hard limit w 0\nhard seat carl r 0\n"},
	} {
		r := list[i]
		if !slices.Equal(r.Plan, x.plan) || r.Moved != x.moved || r.Cost != 0 || len(r.Problem.Guests) != x.guests || rule.Format(r.Problem.Rules) != x.rules {
			t.Errorf("%d: %+v", i, r)
		}
	}
	for _, x := range []struct {
		l    []api.Change
		most int
		n    int
		e    api.Errno
	}{
		{nil, 0, 0, api.OK}, {[]api.Change{}, -1, 0, api.OK}, {[]api.Change{quarrel, {}}, 3, 1, api.ErrChange}, {[]api.Change{{}, quarrel}, 3, 0, api.ErrChange},
		{[]api.Change{quarrel, late("dora", 0), close, cancel}, 3, 2, api.ErrNone}, {[]api.Change{quarrel}, 0, 0, api.ErrNone}, {[]api.Change{quarrel}, -3, 0, api.ErrNone},
		{[]api.Change{quarrel, cancel, cancel, {}}, 3, 2, api.ErrUnknown}, {[]api.Change{late("dora", 0), late("eli", 0), late("fay", 0), late("gus", 99)}, 3, 2, api.ErrRoom},
		// What is wrong with a change comes before what is wrong with a later one, even if that is wrong in itself.
		{[]api.Change{late("Dora", 0), {}}, 3, 0, api.ErrName},
	} {
		list, at, e := repair.Replay(p, part, x.l, x.most)
		want := x.n
		if e == api.OK {
			want = 0
		}
		if len(list) != min(x.n, len(x.l)) || at != want || e != x.e {
			t.Errorf("%+v: %v, %d, %d", x.l, list, at, e)
		}
	}
	// The tries are too many only after the second guest has come.
	q := feast(0, 142)
	list, at, e = repair.Replay(q, nil, []api.Change{late("anna", 0), late("boris", 0), late("carl", 0)}, 1)
	if len(list) != 1 || at != 1 || e != api.ErrLarge || !slices.Equal(list[0].Plan, []int{0}) {
		t.Error(list, at, e)
	}
	for _, x := range fails() {
		for _, l := range [][]api.Change{nil, {{}}, {cancel}} {
			if list, at, e := repair.Replay(x.p, x.part, l, 1); at != 0 || e != x.e || len(list) != 0 {
				t.Errorf("%v, %d, %d, not %d", list, at, e, x.e)
			}
		}
	}
}

// P10.6: against Apply and Fix, of any problems and changes. The repairs share no memory (R4).
func TestAnyReplay(t *testing.T) {
	r := rand.New(rand.NewSource(26))
	lengths, errors := map[int]int{}, map[api.Errno]int{}
	for range 800 {
		p := anyProblem(r, 300, r.Intn(3))
		part, most := anyPart(r, p), pick(r, -1, 0, 1, 1, 2, 5)
		var l []api.Change
		var want []api.Repair
		e := api.OK
		q, x := p, part
		for range r.Intn(7) {
			c := anyChange(r, q)
			l = append(l, c)
			if e != api.OK {
				continue
			}
			y, z, f := repair.Apply(q, x, c)
			var next api.Repair
			if e = f; e == api.OK {
				next, e = repair.Fix(y, z, most)
			}
			if e == api.OK {
				want = append(want, next)
				q, x = next.Problem, next.Plan
			}
		}
		at := 0
		if e != api.OK {
			at = len(want)
		}
		p0, part0, l0 := show(p), show(part), show(l)
		got, i, f := repair.Replay(p, part, l, most)
		if i != at || f != e || show(got) != show(want) {
			t.Fatalf("%v, %v, %+v, %d: %+v, %d, %d, not %+v, %d, %d", p, part, l, most, got, i, f, want, at, e)
		}
		for k, s := range got {
			scribble(s.Problem, s.Plan)
			if rest := got[k+1:]; show(rest) != show(want[k+1:]) {
				t.Fatal("shared memory")
			}
		}
		if show(p) != p0 || show(part) != part0 || show(l) != l0 {
			t.Fatal("an argument is changed")
		}
		lengths[len(want)]++
		errors[e]++
	}
	if lengths[2] < 50 || lengths[4] < 20 || errors[api.OK] < 100 || errors[api.ErrNone] < 50 || errors[api.ErrUnknown] < 20 || errors[api.ErrRoom] < 10 {
		t.Error(lengths, errors)
	}
}
