package office

import (
	"slices"
	"strconv"

	"trestle/api"
	"trestle/court"
	"trestle/guest"
	"trestle/hall"
	"trestle/large"
	"trestle/plan"
	"trestle/repair"
	"trestle/rule"
	"trestle/search"
)

// What the line of a lower layer adds is read behind what is there already, as that layer's own text: so it has its own errors.

func (t *task) addTable() {
	tables, _, e := hall.Parse(hall.Format(t.tables) + t.line + "\n")
	check(e)
	t.tables = tables
	t.say("tables", strconv.Itoa(len(t.tables)))
}

func (t *task) addGuest() {
	t.addToRoll()
	expect(len(t.roll.Guests) <= hall.Count(t.tables), api.ErrRoom)
	if t.hasPlan {
		t.plan = append(t.plan, -1)
	}
	t.say("guests", strconv.Itoa(len(t.roll.Guests)))
}

func (t *task) addTie() {
	t.addToRoll()
	t.say("ties", strconv.Itoa(len(t.roll.Ties)))
}

func (t *task) addToRoll() {
	roll, _, e := guest.Parse(guest.Format(t.roll) + t.line + "\n")
	check(e)
	t.roll = roll
}

func (t *task) addClause() {
	clauses, _, e := court.Parse(court.Format(t.clauses) + t.rest() + "\n")
	check(e)
	t.clauses = clauses
	t.say("clauses", strconv.Itoa(len(t.clauses)))
}

func (t *task) addRule() {
	rules, _, e := rule.Parse(t.rest() + "\n")
	check(e)
	check(rule.CheckRule(t.problem(), rules[0]))
	expect(len(t.rules) < api.MaxRules, api.ErrMany)
	t.rules = append(t.rules, rules[0])
	t.say("rules", strconv.Itoa(len(t.rules)))
}

func (t *task) dropRule() {
	n := t.number(0)
	expect(n < len(t.rules), api.ErrUnknown)
	t.rules = slices.Delete(t.rules, n, n+1)
	t.say("rules", strconv.Itoa(len(t.rules)))
}

func (t *task) setMoves() {
	n := t.number(0)
	expect(n <= api.MaxGuests, api.ErrCount)
	t.moves = n
	t.say("ok")
}

func (t *task) begin() {
	t.sit(slices.Repeat([]int{-1}, len(t.roll.Guests)))
	t.say("ok")
}

func (t *task) clear() {
	t.hasPlan, t.plan = false, nil
	t.say("ok")
}

func (t *task) place() {
	g := t.guestNamed(t.words[0])
	table := t.tableNamed(t.words[1])
	k := t.number(2)
	expect(k < hall.Seats(t.tables[table]), api.ErrCount)
	seat := hall.First(t.tables, table) + k
	sitter := slices.Index(t.plan, seat)
	expect(sitter < 0 || sitter == g, api.ErrTaken)
	t.plan[g] = seat
	t.say("ok")
}

func (t *task) stand() {
	t.plan[t.guestNamed(t.words[0])] = -1
	t.say("ok")
}

func (t *task) swap() {
	g := t.guestNamed(t.words[0])
	h := t.guestNamed(t.words[1])
	t.plan[g], t.plan[h] = t.plan[h], t.plan[g]
	t.say("ok")
}

func (t *task) turn() {
	part, e := plan.Act(t.problem(), t.plan, t.tableNamed(t.words[0]), t.number(1))
	check(e)
	t.sit(part)
	t.say("ok")
}

func (t *task) tidy() {
	part, e := plan.Canon(t.problem(), t.plan)
	check(e)
	t.sit(part)
	t.say("ok")
}

func (t *task) solve() {
	best, e := search.Best(t.problem())
	check(e)
	t.sit(best.Plan)
	t.say("cost", strconv.Itoa(best.Cost))
}

func (t *task) build() {
	c, e := large.Build(t.problem(), t.number(0))
	check(e)
	t.sit(c.Plan)
	t.say("cost", strconv.Itoa(c.Cost), "bound", strconv.Itoa(c.Bound))
}

func (t *task) late() {
	expect(t.words[0] == "guest", api.ErrForm)
	roll, _, e := guest.Parse(t.rest() + "\n")
	check(e)
	// The guest's class is that of the clauses, whatever the change says.
	t.apply(api.Change{Kind: api.Late, Guest: roll.Guests[0]})
}

func (t *task) change() {
	changes, _, e := repair.Parse(t.line + "\n")
	check(e)
	t.apply(changes[0])
}

// apply makes a change, and repairs the plan behind it.
func (t *task) apply(c api.Change) {
	p, part, e := repair.Apply(t.problem(), t.plan, c)
	check(e)
	t.roll, t.rules, t.plan = api.Roll{Guests: p.Guests, Ties: p.Ties}, p.Rules, part
	t.mend()
}

func (t *task) mend() {
	r, e := repair.Fix(t.problem(), t.plan, t.moves)
	check(e)
	t.sit(r.Plan)
	t.say("moved", strconv.Itoa(r.Moved), "cost", strconv.Itoa(r.Cost))
}

// sit makes a partial plan the plan.
func (t *task) sit(part []int) { t.hasPlan, t.plan = true, part }
