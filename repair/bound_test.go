package repair_test

import (
	"math"
	"math/rand"
	"slices"
	"testing"

	"trestle/api"
	"trestle/hall"
	"trestle/plan"
	"trestle/repair"
	"trestle/rule"
	"trestle/search"
)

// P10.3: what is upset, and how many guests are moved at least.
func TestUpset(t *testing.T) {
	for _, x := range []struct {
		rules string
		part  []int
		upset []int
		least int
	}{
		{"hard apart anna boris 2\n", []int{0, 1, 2}, []int{0}, 1},
		{"", []int{0, 1, 2}, nil, 0},
		{"hard apart anna boris 2\n", []int{0, -1, 2}, nil, 0},
		{"hard apart anna boris 2\n", []int{0, 4, 2}, nil, 0},
		{"weigh 1 apart anna boris 2\nhard apart boris carl 2\n", []int{0, 1, 2}, []int{1}, 1},
		// Two rules that blame boris count once, whichever comes first; those of anna and of carl count apart from each other.
		{"hard apart anna boris 2\nhard apart boris carl 2\n", []int{0, 1, 2}, []int{0, 1}, 1},
		{"hard seat anna r 3\nhard at carl w\n", []int{0, 1, 2}, []int{0, 1}, 2},
		{"hard seat anna r 3\nhard apart anna carl 2\nhard at carl w\n", []int{0, 1, 2}, []int{0, 1, 2}, 2},
		{"hard apart anna carl 2\nhard seat anna r 3\nhard at carl w\n", []int{0, 1, 2}, []int{0, 1, 2}, 1},
		{"hard apart anna carl 2\nhard seat anna r 3\nhard at boris w\n", []int{0, 1, 2}, []int{0, 1, 2}, 2},
		// Limit blames all at its table, also those whom a later rule blames.
		{"hard limit r 2\nhard at anna w\n", []int{0, 1, 2}, []int{0, 1}, 1},
		{"hard at anna w\nhard limit r 2\n", []int{0, 1, 2}, []int{0, 1}, 1},
		{"hard limit r 0\n", []int{0, 1, 2}, []int{0}, 1},
		{"hard limit r 1\nhard limit w 0\n", []int{0, 1, 4}, []int{0, 1}, 2},
		{"hard limit r 2\n", []int{0, 1, -1}, nil, 0},
		// Host, speak and fill are upset, but somebody may come who is not to blame.
		{"hard host -\nhard speak -\nhard fill w 1\n", []int{0, 1, 2}, []int{0, 1, 2}, 0},
		{"hard host -\nhard at anna w\n", []int{0, 1, 2}, []int{0, 1}, 1},
		{"hard fill w 1\nhard fill r 4\nhard speak -\n", []int{0, 1, -1}, []int{1}, 0},
		{"hard seat carl w 0\nhard kitchen fish r\nhard reach -\nhard mix -\n", []int{-1, -1, 4}, nil, 0},
	} {
		p := wider(t, x.rules)
		if upset, n := repair.Upset(p, x.part), repair.AtLeast(p, x.part); !slices.Equal(upset, x.upset) || n != x.least {
			t.Errorf("%q, %v: %v, %d, not %v, %d", x.rules, x.part, upset, n, x.upset, x.least)
		}
	}
	p := wider(t, "hard kitchen fish w\nhard reach -\nhard peace -\nhard alternate -\nhard mix -\nhard honour -\n")
	p.Guests = []api.Guest{{Name: "anna", Diet: "fish", Side: 1, Court: "spain"}, {Name: "boris", Side: 1, Access: true}, {Name: "carl", Court: "spain", Host: true}}
	p.Class = []int{1, 0, 1}
	p.Ties = []api.Tie{{A: "anna", B: "carl", Kind: api.Feud}}
	if upset, n := repair.Upset(p, []int{0, 1, 3}), repair.AtLeast(p, []int{0, 1, 3}); !slices.Equal(upset, []int{0, 1, 2, 3, 4, 5}) || n != 2 {
		t.Error(upset, n)
	}
}

// P10.3: Upset and AtLeast against the chapter's words, of any problems.
func TestAnyUpset(t *testing.T) {
	r := rand.New(rand.NewSource(22))
	counts := map[int]int{}
	for range 3000 {
		p := anyProblem(r, 5000, r.Intn(24))
		part := anyPart(r, p)
		j, _, _ := rule.New(p)
		var upset []int
		least, blamed := 0, map[int]bool{}
		for i, x := range p.Rules {
			if x.Weight > 0 || j.Least(part, i) == 0 {
				continue
			}
			upset = append(upset, i)
			if x.Kind == api.HostAt || x.Kind == api.Speak || x.Kind == api.Fill {
				continue
			}
			fresh := true
			for _, g := range j.Blame(part, i) {
				fresh = fresh && !blamed[g]
			}
			if fresh {
				least++
				for _, g := range j.Blame(part, i) {
					blamed[g] = true
				}
			}
		}
		if l, n := repair.Upset(p, part), repair.AtLeast(p, part); !slices.Equal(l, upset) || n != least {
			t.Fatalf("%v, %v: %v, %d, not %v, %d", p, part, l, n, upset, least)
		}
		counts[least]++
	}
	if counts[0] < 300 || counts[1] < 300 || counts[2] < 100 || counts[3] < 10 {
		t.Error(counts)
	}
}

// P10.3: how many ways there are to seat guests.
func TestTries(t *testing.T) {
	p := three(t, "")
	p.Guests = append(p.Guests, api.Guest{Name: "dora"})
	for most, want := range []int{1, 1 + 3*2, 1 + 3*2 + 3*6, 1 + 3*2 + 3*6 + 24, 49, 49} {
		if n := repair.Tries(p, []int{0, 1, 2, -1}, most); n != want {
			t.Errorf("%d: %d, not %d", most, n, want)
		}
	}
	for _, x := range []struct{ guests, seats, seated, most, want int }{
		{0, 0, 0, 0, 1}, {0, 7, 0, 3, 1}, {3, 4, 3, 0, 1}, {3, 4, 3, -1, 1}, {3, 4, 3, math.MinInt, 1}, {3, 4, 3, math.MaxInt, 1 + 6 + 18 + 24},
		{1, 384, 1, 1, 385}, {1, 384, 0, 9, 384}, {7, 7, 0, 0, 5040}, {8, 8, 0, 0, 20001}, {64, 64, 64, 0, 1}, {64, 64, 64, 1, 65}, {64, 64, 64, 2, 65 + 2016*2}, {64, 64, 64, 3, 20001},
		{64, 64, 64, 64, 20001}, {64, 384, 64, 64, 20001}, {64, 384, 0, 0, 20001}, {64, 384, 63, 0, 321}, {2, 142, 0, 0, 20001}, {2, 141, 0, 0, 19740},
		// Just within the limit, and just beyond it.
		{45, 48, 45, 2, 19981}, {62, 383, 62, 1, 19965}, {4, 84, 3, 1, 20001}, {58, 60, 58, 2, 20001},
	} {
		q := feast(x.guests, x.seats)
		if n := repair.Tries(q, first(q, x.seated), x.most); n != x.want {
			t.Errorf("%+v: %d", x, n)
		}
	}
	r := rand.New(rand.NewSource(23))
	within := 0
	for range 3000 {
		q := feast(r.Intn(pick(r, 4, 12, 65)), 64+r.Intn(pick(r, 1, 20, 320)))
		part := r.Perm(hall.Count(q.Tables))[:len(q.Guests)]
		for g := range min(r.Intn(4), len(part)) {
			part[g] = -1
		}
		most := pick(r, strange()...)
		n := repair.Tries(q, part, most)
		if want := tries(q, part, most); n != want {
			t.Fatalf("%d guests, %v, %d: %d, not %d", len(q.Guests), part, most, n, want)
		}
		if n > 1 && n <= api.MaxWork {
			within++
		}
	}
	if within < 200 {
		t.Error("within the limit:", within)
	}
}

// P10.3: the tries are all ways to let guests stand up, and to seat all who are not seated then.
func TestTriesCounted(t *testing.T) {
	r := rand.New(rand.NewSource(24))
	for range 300 {
		p := anyProblem(r, 300, 0)
		part, most := anyPart(r, p), r.Intn(4)
		n := 0
		for sets := range 1 << len(part) {
			x, up := slices.Clone(part), 0
			for g := range x {
				if sets&(1<<g) != 0 && x[g] != -1 {
					x[g] = -1
					up++
				} else if sets&(1<<g) != 0 {
					up = math.MaxInt32
				}
			}
			if up > most {
				continue
			}
			for y, ok := must(plan.Unrank(p, 0)), true; ok; y, ok = plan.Next(p, y) {
				if moved(x, y) == 0 {
					n++
				}
			}
		}
		if got := repair.Tries(p, part, most); got != min(n, api.MaxWork+1) {
			t.Fatalf("%v, %v, %d: %d, not %d", p, part, most, got, n)
		}
	}
}

// must returns a plan that is there.
func must(x []int, e api.Errno) []int {
	if e != api.OK {
		panic(e)
	}
	return x
}

// P10.3: with an invalid problem or partial plan there is nothing.
func TestBoundsInvalid(t *testing.T) {
	for _, x := range fails() {
		if l, n, m := repair.Upset(x.p, x.part), repair.AtLeast(x.p, x.part), repair.Tries(x.p, x.part, 0); len(l) != 0 || n != 0 || m != 0 {
			t.Errorf("%d: %v, %d, %d", x.e, l, n, m)
		}
	}
}

// P10.5: the hard rules, and where everybody sits.
func TestKeep(t *testing.T) {
	for _, x := range []struct {
		rules string
		part  []int
		kept  string
	}{
		{"", []int{-1, -1, -1}, ""},
		{"", []int{2, -1, 4}, "weigh 1 seat anna r 2\nweigh 1 seat carl w 0\n"},
		{"weigh 3 mix -\nhard apart carl anna 2\nweigh 1 seat anna r 0\nhard host r\n", []int{-1, 4, 3}, "hard apart carl anna 2\nhard host r\nweigh 1 seat boris w 0\nweigh 1 seat carl r 3\n"},
		{"hard seat carl r 1\n", []int{3, 2, 1}, "hard seat carl r 1\nweigh 1 seat anna r 3\nweigh 1 seat boris r 2\nweigh 1 seat carl r 1\n"},
	} {
		p := wider(t, x.rules)
		p.Class = []int{1, 0, 5}
		p.Ties = []api.Tie{{A: "anna", B: "carl", Kind: api.Feud}}
		want := copied(p)
		want.Rules = rulesOf(t, x.kept)
		if q, e := repair.Keep(p, x.part); e != api.OK || show(q) != show(want) {
			t.Errorf("%q, %v: %v, %d", x.rules, x.part, q, e)
		}
	}
	for _, x := range []struct{ hard, weighed, seated int }{{0, 64, 64}, {1, 63, 63}, {64, 0, 0}, {32, 32, 32}, {0, 0, 64}, {1, 0, 64}, {64, 0, 1}, {33, 31, 32}, {64, 0, 64}} {
		p := feast(64, 70)
		p.Rules = append(slices.Repeat([]api.Rule{{Kind: api.Mix}}, x.hard), slices.Repeat([]api.Rule{{Kind: api.Speak, Weight: 2}}, x.weighed)...)
		q, e := repair.Keep(p, first(p, x.seated))
		steps, f := repair.Prove(p, first(p, x.seated), 0)
		if x.hard+x.seated > 64 {
			if e != api.ErrMany || f != api.ErrMany || !nothing(q, steps) {
				t.Errorf("%+v: %v, %d, %v, %d", x, q, e, steps, f)
			}
		} else if e != api.OK || len(q.Rules) != x.hard+x.seated || f != api.ErrLarge || !nothing(steps) {
			t.Errorf("%+v: %v, %d, %v, %d", x, q, e, steps, f)
		}
	}
	for _, x := range fails() {
		q, e := repair.Keep(x.p, x.part)
		steps, f := repair.Prove(x.p, x.part, 1)
		if e != x.e || f != x.e || !nothing(q, steps) {
			t.Errorf("%v, %d, %v, %d, not %d", q, e, steps, f, x.e)
		}
	}
}

// P10.5: that no repair moves fewer guests is proved as long as it is true; with a bound below 0, that there is no repair.
func TestProve(t *testing.T) {
	none := wider(t, "hard limit r 2\nhard limit w 0\n")
	for _, x := range []struct {
		p     api.Problem
		part  []int
		moved int
		e     api.Errno
	}{
		{wider(t, "hard apart anna boris 2\n"), []int{0, 1, 2}, 0, api.OK}, {wider(t, "hard apart anna boris 2\n"), []int{0, 1, 2}, 1, api.OK}, {wider(t, "hard apart anna boris 2\n"), []int{0, 1, 2}, 2, api.ErrFalse},
		{wider(t, "hard apart anna boris 2\n"), []int{0, 1, 2}, -1, api.ErrFalse}, {wider(t, ""), []int{0, 1, 2}, 0, api.OK}, {wider(t, ""), []int{0, 1, 2}, 1, api.ErrFalse},
		{three(t, "hard seat carl r 0\n"), []int{0, 1, 2}, 2, api.OK}, {three(t, "hard seat carl r 0\n"), []int{0, 1, 2}, 3, api.ErrFalse}, {three(t, "hard seat carl r 0\n"), []int{-1, 1, 2}, 1, api.OK}, {three(t, "hard seat carl r 0\n"), []int{-1, 1, 2}, 2, api.ErrFalse},
		{none, []int{0, 1, 2}, -1, api.OK}, {none, []int{0, 1, 2}, 4, api.OK}, {none, []int{0, 1, 2}, math.MaxInt, api.OK}, {none, []int{0, 1, 2}, math.MinInt, api.OK},
	} {
		steps, e := repair.Prove(x.p, x.part, x.moved)
		if e != x.e || e != api.OK && !nothing(steps) {
			t.Errorf("%v, %v, %d: %v, %d, not %d", x.p, x.part, x.moved, steps, e, x.e)
		}
		q, _ := repair.Keep(x.p, x.part)
		if at, f := search.Verify(q, x.moved, steps); e == api.OK && (at != 0 || f != api.OK) {
			t.Errorf("%v, %v, %d: %v: %d, %d", x.p, x.part, x.moved, steps, at, f)
		}
	}
}
