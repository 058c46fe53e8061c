package office

import (
	"cmp"
	"strconv"
	"strings"

	"trestle/api"
	"trestle/conflict"
	"trestle/court"
	"trestle/evening"
	"trestle/search"
	"trestle/service"
)

func (t *task) count() {
	plans, classes, e := search.Count(t.problem())
	check(e)
	t.say("plans", strconv.Itoa(plans), "classes", strconv.Itoa(classes))
}

func (t *task) cost() {
	j := t.judge()
	t.say("cost", strconv.Itoa(j.Cost(t.plan)))
	if broken := j.Broken(t.plan); len(broken) > 0 {
		t.say("broken")
		t.say(wordsOf(broken)...)
	}
}

func (t *task) prove() {
	p, j := t.problem(), t.judge()
	expect(j.Right(t.plan), api.ErrStuck)
	_, e := search.Prove(p, j.Cost(t.plan))
	if e != api.ErrFalse {
		check(e)
		t.say("best")
		return
	}
	best, e := search.Best(p)
	check(e)
	t.say("cheaper", strconv.Itoa(best.Cost))
}

func (t *task) core() {
	core, _, e := conflict.Refute(t.problem())
	check(e)
	t.say("core")
	t.say(wordsOf(core)...)
}

func (t *task) show() { t.sayParts("/", linesOf(service.Names(t.problem(), t.plan))...) }

func (t *task) card() {
	g := t.guestNamed(t.words[0])
	t.seatOf(g)
	t.sayParts("/", linesOf(service.Card(t.problem(), t.plan, g))...)
}

func (t *task) chart() {
	table := t.tableNamed(t.words[0])
	t.sayParts("/", linesOf(service.Chart(t.problem(), t.plan, table))...)
}

func (t *task) dishes() {
	var parts []string
	for _, d := range service.Dishes(t.problem(), t.plan) {
		parts = append(parts, t.tables[d.Table].Name+" "+cmp.Or(d.Diet, "-")+" "+strconv.Itoa(d.N))
	}
	t.sayParts("/", parts...)
}

func (t *task) route() {
	way, length, e := service.Route(t.problem(), t.plan)
	check(e)
	t.say("length", strconv.Itoa(length))
	for _, table := range way {
		t.say(t.tables[table].Name)
	}
}

func (t *task) trips() {
	p := t.problem()
	way, _, e := service.Route(p, t.plan)
	check(e)
	trips, e := service.Trips(p, t.plan, way, t.number(0))
	check(e)
	t.sayParts("/", linesOf(service.FormatTrips(p, trips))...)
}

func (t *task) order() {
	order, e := court.Line(t.clauses, t.roll.Guests)
	check(e)
	t.say(t.names(order)...)
}

func (t *task) classes() {
	var parts []string
	for _, class := range court.Order(t.clauses, t.roll.Guests) {
		parts = append(parts, strings.Join(t.names(class), " "))
	}
	t.sayParts("/", parts...)
}

func (t *task) circles() {
	var parts []string
	for _, circle := range t.book().Circles() {
		parts = append(parts, strings.Join(circle, " "))
	}
	t.sayParts("/", parts...)
}

func (t *task) camps() {
	camps, ring := t.book().Camps()
	if len(ring) > 0 {
		t.say("none")
		return
	}
	t.say("camps")
	t.say(wordsOf(camps)...)
}

func (t *task) chain() {
	names, ok := t.book().Chain(t.words[0], t.words[1])
	expect(ok, api.ErrNone)
	t.say(names...)
}

func (t *task) evenings() {
	var sizes []int
	for i := 1; i < len(t.words); i++ {
		sizes = append(sizes, t.number(i))
	}
	n := len(t.roll.Guests)
	s, e := evening.Plan(n, sizes, t.number(0))
	check(e)
	t.sayParts("//", linesOf(evening.Format(n, s))...)
}

func (t *task) state() {
	t.say("tables", strconv.Itoa(len(t.tables)), "guests", strconv.Itoa(len(t.roll.Guests)), "ties", strconv.Itoa(len(t.roll.Ties)))
	t.say("clauses", strconv.Itoa(len(t.clauses)), "rules", strconv.Itoa(len(t.rules)))
	if !t.hasPlan {
		t.say("no", "plan")
		return
	}
	t.say("seated", strconv.Itoa(t.seated()))
}
