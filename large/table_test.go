package large_test

import (
	"math/rand"
	"slices"
	"testing"

	"trestle/api"
	"trestle/large"
	"trestle/rule"
)

// P8.1: the assignments of plans, whether lists are assignments, and the fixed faults in them.
func TestAssignments(t *testing.T) {
	r := rand.New(rand.NewSource(1))
	seen, faults := map[bool]int{}, map[api.RuleKind]int{}
	for range 1500 {
		m := modelOf(t, anyProblem(r, 3000, r.Intn(9)))
		x := anyPlan(r, m.p)
		tables := large.TablesOf(m.p, x)
		if !slices.Equal(tables, m.tables(x)) || !large.Assigned(m.p, tables) {
			t.Fatalf("%v: %v has the assignment %v, not %v", m.p, x, tables, m.tables(x))
		}
		if len(m.p.Tables) > 0 && len(tables) > 0 {
			for range r.Intn(5) {
				tables[r.Intn(len(tables))] = r.Intn(len(m.p.Tables))
			}
		}
		is := m.assigned(tables)
		seen[is]++
		list := large.Fixed(m.p, tables)
		if large.Assigned(m.p, tables) != is || !is && list != nil || is && len(list) != len(m.p.Rules) {
			t.Fatalf("%v: %v is an assignment: %v, with the faults %v", m.p, tables, is, list)
		}
		for i, n := range list {
			if n != m.fixed(tables, m.p.Rules[i]) {
				t.Fatalf("%v: rule %d in %v: %d fixed faults, not %d", m.p, i, tables, n, m.fixed(tables, m.p.Rules[i]))
			}
			if n > 0 {
				faults[m.p.Rules[i].Kind]++
			}
		}
	}
	if seen[true] < 600 || seen[false] < 90 || faults[api.Kitchen] < 30 || faults[api.Company] < 30 || len(faults) != 8 {
		t.Error(seen, faults)
	}
}

// P8.1: the fixed faults of each kind; those of all but eight kinds are 0, whatever the plans are.
func TestFixed(t *testing.T) {
	p := four(t, "")
	p.Guests[0].Diet, p.Guests[2].Diet, p.Guests[3].Diet = "vegan", "vegan", "fish"
	p.Guests[0].Side, p.Guests[1].Side, p.Guests[0].Court, p.Guests[1].Court = 1, 1, "x", "x"
	p.Ties = []api.Tie{{A: "anna", B: "boris", Kind: api.Feud}, {A: "anna", B: "carl", Kind: api.Friend}, {A: "anna", B: "dora", Kind: api.Friend}, {A: "carl", B: "dora", Kind: api.Friend}}
	p.Tables = append(p.Tables, api.Table{Name: "x", Shape: api.Round, A: 1})
	// anna and boris at r, carl at w, dora at x.
	tables := []int{0, 0, 1, 2}
	for _, x := range []struct {
		line string
		n    int
	}{
		{"beside anna boris", 0}, {"beside anna carl", 1}, {"across dora carl", 1}, {"across boris anna", 0}, {"near boris dora 24", 1}, {"near boris anna 1", 0},
		{"together anna boris", 0}, {"together carl boris", 1}, {"apart anna boris 0", 0}, {"apart anna carl 0", 0}, {"apart anna carl 24", 0},
		{"at anna r", 0}, {"at anna w", 1}, {"at dora r", 1}, {"seat carl w 1", 0}, {"seat carl w 0", 0}, {"seat carl r 1", 1},
		{"kitchen vegan r", 1}, {"kitchen vegan w", 1}, {"kitchen vegan x", 2}, {"kitchen fish x", 0}, {"kitchen fish r", 1}, {"kitchen meat r", 0},
		{"company -", 3}, {"company r", 2}, {"company w", 2}, {"company x", 2},
		{"fill - 9", 0}, {"limit - 0", 0}, {"host -", 0}, {"reach -", 0}, {"reach anna", 0}, {"speak -", 0}, {"honour -", 0}, {"peace -", 0}, {"mix -", 0}, {"alternate -", 0},
	} {
		for _, word := range []string{"hard ", "weigh 7 "} {
			p.Rules = rulesOf(t, word+x.line+"\n")
			if l := large.Fixed(p, tables); !slices.Equal(l, []int{x.n}) {
				t.Errorf("%s: %v, not %d", x.line, l, x.n)
			}
		}
	}
	p.Rules = nil
	if l := large.Fixed(p, tables); len(l) != 0 {
		t.Error(l)
	}
}

// P8.1: what is no assignment, or no plan, and what is one although nobody is there.
func TestNoAssignment(t *testing.T) {
	p := four(t, asked)
	for _, tables := range [][]int{
		nil, {0, 0, 1}, {0, 0, 1, 1, 0}, {0, 0, 1, 2}, {0, 0, 1, -1}, {-1, 0, 1, 1}, {0, 0, 0, 0}, {1, 1, 1, 0}, {1, 0, 1, 1}, {2, 2, 2, 2}, {strange()[0], 0, 1, 1},
	} {
		part, guests, rules, e := large.Split(p, tables, 0)
		best, f := large.Arrange(p, tables)
		if large.Assigned(p, tables) || large.Fixed(p, tables) != nil || !nothing(part, guests, rules, best) || e != api.ErrArg || f != api.ErrArg {
			t.Error(tables, part, guests, rules, best, e, f)
		}
	}
	for _, x := range [][]int{nil, {0, 1, 2}, {0, 1, 2, 3, 4}, {0, 1, 2, -1}, {0, 1, 2, 2}, {0, 1, 2, 5}, {-2, 1, 2, 3}} {
		if l := large.TablesOf(p, x); l != nil {
			t.Error(x, l)
		}
	}
	for _, q := range []api.Problem{{}, feast(0, 30)} {
		if l := large.TablesOf(q, nil); len(l) != 0 || !large.Assigned(q, nil) || !large.Assigned(q, []int{}) || large.Assigned(q, []int{0}) || len(large.Fixed(q, nil)) != 0 {
			t.Error(q, l)
		}
	}
	full := feast(64, 64)
	tables := large.TablesOf(full, all(64))
	if !large.Assigned(full, tables) || tables[23] != 0 || tables[24] != 1 || tables[63] != 2 {
		t.Error(tables)
	}
	tables[24] = 0
	if large.Assigned(full, tables) {
		t.Error("25 guests on 24 seats")
	}
	for _, x := range fails() {
		tables := slices.Repeat([]int{0}, len(x.p.Guests))
		if large.Assigned(x.p, tables[:1]) || large.Assigned(x.p, tables) || large.TablesOf(x.p, all(64)) != nil || large.Fixed(x.p, tables) != nil {
			t.Error("an assignment of", x.p)
		}
	}
}

// P8.2: the parts of all tables, with their guests and rules.
func TestSplit(t *testing.T) {
	r := rand.New(rand.NewSource(2))
	left := map[api.RuleKind]int{}
	for range 800 {
		m := modelOf(t, anyProblem(r, 3000, r.Intn(12)))
		tables := m.tables(anyPlan(r, m.p))
		for at := range m.p.Tables {
			part, guests, rules, e := large.Split(m.p, tables, at)
			q, g, i := m.part(t, tables, at)
			if show(part, guests, rules) != show(q, g, i) || e != api.OK {
				t.Fatalf("%v: table %d in %v: %v, %v, %v, %d, not %v, %v, %v", m.p, at, tables, part, guests, rules, e, q, g, i)
			}
			if _, e := rule.Check(part); e != api.OK {
				t.Fatalf("%v: table %d in %v: %v: %d", m.p, at, tables, part, e)
			}
			for _, x := range part.Rules {
				left[x.Kind]++
			}
		}
		for _, at := range []int{-1, len(m.p.Tables), strange()[0], strange()[17]} {
			if part, guests, rules, e := large.Split(m.p, tables, at); !nothing(part, guests, rules) || e != api.ErrArg {
				t.Fatal(m.p, at, part, guests, rules, e)
			}
		}
	}
	if len(left) != 16 || left[api.At] != 0 || left[api.Kitchen] != 0 || left[api.Seat] < 10 || left[api.Across] < 10 {
		t.Error(left)
	}
}

// P8.2: the chapter's example 1, and a part of whose table nobody sits.
func TestSplitExample(t *testing.T) {
	p := four(t, asked+"hard reach -\nhard reach anna\nweigh 1 mix -\nweigh 3 speak w\n")
	p.Class = []int{4, 3, 2, 1}
	for _, x := range []struct {
		tables, guests, rules, class []int
		at                           int
		text                         string
	}{
		{[]int{0, 0, 1, 1}, []int{2, 3}, []int{1, 3, 4, 6, 7}, []int{2, 1}, 1, "weigh 5 beside carl dora\nweigh 1 fill w 2\nhard reach -\nweigh 1 mix w\nweigh 3 speak w\n"},
		{[]int{0, 0, 1, 1}, []int{0, 1}, []int{0, 4, 5, 6}, []int{4, 3}, 0, "hard together anna boris\nhard reach -\nhard reach anna\nweigh 1 mix r\n"},
		{[]int{0, 1, 0, 0}, []int{0, 2, 3}, []int{1, 4, 5, 6}, []int{4, 2, 1}, 0, "weigh 5 beside carl dora\nhard reach -\nhard reach anna\nweigh 1 mix r\n"},
	} {
		part, guests, rules, e := large.Split(p, x.tables, x.at)
		if !slices.Equal(guests, x.guests) || !slices.Equal(rules, x.rules) || !slices.Equal(part.Class, x.class) || rule.Format(part.Rules) != x.text || e != api.OK {
			t.Error(x.tables, x.at, part, guests, rules, e)
		}
	}
	p.Guests = p.Guests[:2]
	p.Rules, p.Class = rulesOf(t, "hard fill - 1\nhard reach -\n"), []int{1, 1}
	part, guests, rules, e := large.Split(p, []int{0, 0}, 1)
	if len(part.Guests) != 0 || len(part.Class) != 0 || len(guests) != 0 || !slices.Equal(rules, []int{0, 1}) || rule.Format(part.Rules) != "hard fill w 1\nhard reach -\n" || e != api.OK {
		t.Error(part, guests, rules, e)
	}
}

// P8.3: the best plan of each assignment.
func TestArrange(t *testing.T) {
	r := rand.New(rand.NewSource(3))
	seen := map[api.Errno]int{}
	for range 500 {
		m := modelOf(t, anyProblem(r, 900, r.Intn(8)))
		tables := m.tables(anyPlan(r, m.p))
		best, e := large.Arrange(m.p, tables)
		want, f := m.arrange(tables)
		if show(best) != show(want) || e != f {
			t.Fatalf("%v: %v: %v, %d, not %v, %d", m.p, tables, best, e, want, f)
		}
		seen[e]++
	}
	if seen[api.OK] < 150 || seen[api.ErrNone] < 80 {
		t.Error(seen)
	}
}

// P8.3: the chapter's examples 1 and 2.
func TestArrangeExamples(t *testing.T) {
	p := four(t, asked)
	for _, x := range []struct {
		tables, plan []int
		cost         int
		e            api.Errno
	}{
		{[]int{0, 0, 1, 1}, []int{0, 1, 3, 4}, 2, api.OK}, {[]int{0, 1, 1, 0}, nil, 0, api.ErrNone}, {[]int{1, 1, 1, 0}, nil, 0, api.ErrArg},
		{[]int{1, 1, 0, 0}, []int{3, 4, 0, 1}, 0, api.OK}, {[]int{0, 0, 1, 0}, []int{0, 1, 3, 2}, 8, api.OK},
	} {
		best, e := large.Arrange(p, x.tables)
		if !slices.Equal(best.Plan, x.plan) || best.Cost != x.cost || e != x.e {
			t.Error(x.tables, best, e)
		}
	}
	if best, e := large.Arrange(api.Problem{}, nil); len(best.Plan) != 0 || best.Cost != 0 || e != api.OK {
		t.Error(best, e)
	}
	// Nobody is there, but a table has too few guests.
	empty := feast(0, 30)
	empty.Rules = rulesOf(t, "weigh 3 fill - 2\nweigh 10 fill tb 1\n")
	if best, e := large.Arrange(empty, nil); len(best.Plan) != 0 || best.Cost != 22 || e != api.OK {
		t.Error(best, e)
	}
	empty.Rules[1].Weight = 0
	if best, e := large.Arrange(empty, nil); best.Plan != nil || best.Cost != 0 || e != api.ErrNone {
		t.Error(best, e)
	}
}

// P8.3: 64 guests, four at each table. The work of the part of one table may be too large, and that comes before ErrNone.
func TestArrangeLarge(t *testing.T) {
	p := feast(64, 384)
	text := "weigh 2 fill - 5\nweigh 1 together a aaaaaa\n"
	var tables, want []int
	for k := range p.Tables {
		// 12 times 11 times 10 times 9 are 11880 ways.
		p.Tables[k].Shape, p.Tables[k].A = api.Round, 12
		if k < 15 {
			text += "hard across " + p.Guests[4*k].Name + " " + p.Guests[4*k+1].Name + "\n"
			want = append(want, 12*k, 12*k+6, 12*k+1, 12*k+2)
		}
		tables = append(tables, k, k, k, k)
	}
	want = append(want, 180, 181, 182, 183)
	none := text + "hard across a aaaaaa\n"
	for _, x := range []struct {
		seats int // of the last table: 13 allow for 17160 ways, 14 for 24024
		text  string
		e     api.Errno
	}{{12, text, api.OK}, {13, text, api.OK}, {14, text, api.ErrLarge}, {24, text, api.ErrLarge}, {13, none, api.ErrNone}, {14, none, api.ErrLarge}} {
		p.Tables[15].A, p.Rules = x.seats, rulesOf(t, x.text)
		best, e := large.Arrange(p, tables)
		if e != x.e || e == api.OK && (!slices.Equal(best.Plan, want) || best.Cost != 33) || e != api.OK && !nothing(best) {
			t.Error(x.seats, best, e, x.e)
		}
	}
}

// P8.2, P8.3: the error of a problem comes first.
func TestTableErrors(t *testing.T) {
	for _, x := range fails() {
		for _, tables := range [][]int{nil, slices.Repeat([]int{0}, len(x.p.Guests)), {-1}} {
			part, guests, rules, e := large.Split(x.p, tables, 99)
			best, f := large.Arrange(x.p, tables)
			if !nothing(part, guests, rules, best) || e != x.e || f != x.e {
				t.Error(tables, part, guests, rules, best, e, f, x.e)
			}
		}
	}
}
