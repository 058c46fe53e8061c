package office_test

import (
	"math/rand"
	"slices"
	"strconv"
	"strings"
	"testing"

	"trestle/api"
	"trestle/conflict"
	"trestle/court"
	"trestle/evening"
	"trestle/guest"
	"trestle/hall"
	"trestle/large"
	"trestle/office"
	"trestle/plan"
	"trestle/repair"
	"trestle/rule"
	"trestle/search"
	"trestle/service"
)

// tell tells lines to an office. Behind each line stand " =>" and its answer, or the word error and a number.
func tell(t *testing.T, o *office.Office, script string) {
	t.Helper()
	for x := range strings.Lines(script) {
		if x = strings.TrimSpace(x); x == "" {
			continue
		}
		line, want, told := strings.Cut(x, " =>")
		answer, e := o.Do(line)
		if e != api.OK {
			answer += "error " + strconv.Itoa(int(e))
		}
		if want = strings.TrimPrefix(want, " "); !told || answer != want {
			t.Errorf("%s: %q, not %q", line, answer, want)
		}
	}
}

// open returns an office that is told lines.
func open(t *testing.T, script string) *office.Office {
	t.Helper()
	o := office.New()
	tell(t, o, script)
	return o
}

// dinner is an office with two tables and four guests.
func dinner(t *testing.T) *office.Office {
	t.Helper()
	return open(t, `
		table r round 4 0 0 10 1 => tables 1
		table w row 2 0 30 0 => tables 2
		guest dee duke spain 2001 1 - h latin => guests 1
		guest bob count spain 1998 1 vegan - latin => guests 2
		guest cid count france 1990 2 - a => guests 3
		guest ann - - 0 2 vegan h => guests 4
		friend dee bob => ties 1
		feud ann cid => ties 2`)
}

// commandRows are the rows of the chapter's table of commands: the line, whether it needs a plan, and whether it keeps or asks.
func commandRows() []string {
	return []string{
		"table WORDS|no|keeps", "guest WORDS|no|keeps", "friend NAME NAME|no|keeps", "feud NAME NAME|no|keeps", "clause WORDS|no|keeps", "rule WORDS|no|keeps", "drop N|no|keeps", "moves N|no|keeps", "begin|no|keeps", "clear|yes|keeps",
		"place NAME TABLE N|yes|keeps", "stand NAME|yes|keeps", "swap NAME NAME|yes|keeps", "turn TABLE N|yes|keeps", "tidy|yes|keeps", "solve|no|keeps", "build N|no|keeps", "mend|yes|keeps",
		"late WORDS|yes|keeps", "cancel NAME|yes|keeps", "quarrel NAME NAME|yes|keeps", "close TABLE N|yes|keeps", "demand WORDS|yes|keeps",
		"count|no|asks", "cost|yes|asks", "prove|yes|asks", "core|no|asks", "why NAME|yes|asks", "show|yes|asks", "card NAME|yes|asks", "chart TABLE|yes|asks", "dishes|yes|asks", "route|yes|asks", "trips N|yes|asks",
		"order|no|asks", "classes|no|asks", "circles|no|asks", "camps|no|asks", "chain NAME NAME|no|asks", "evenings N N ..|no|asks", "state|no|asks",
	}
}

// desk is a model of an office: what it keeps is kept as lines, and read whenever something is asked.
type desk struct {
	tables, guests, ties, clauses, rules string
	moves                                int
	seats                                map[string]string // where guests sit, as in "r 0"; nil if there is no plan
	log                                  string
}

func newDesk() *desk { return &desk{moves: 8} }

// text returns what Text should.
func (d *desk) text() string {
	s := d.tables + d.guests + d.ties
	for line := range strings.Lines(d.clauses) {
		s += "clause " + line
	}
	for line := range strings.Lines(d.rules) {
		s += "rule " + line
	}
	s += "moves " + strconv.Itoa(d.moves) + "\n"
	if d.seats == nil {
		return s
	}
	s += "begin\n"
	for _, name := range d.names() {
		if seat, ok := d.seats[name]; ok {
			s += "place " + name + " " + seat + "\n"
		}
	}
	return s
}

// names returns the names of all guests.
func (d *desk) names() []string {
	var names []string
	for line := range strings.Lines(d.guests) {
		names = append(names, strings.Fields(line)[1])
	}
	return names
}

// problem returns the problem and the plan, if there is one.
func (d *desk) problem() (api.Problem, []int) {
	var p api.Problem
	p.Tables, _, _ = hall.Parse(d.tables)
	roll, _, _ := guest.Parse(d.guests + d.ties)
	p.Guests, p.Ties = roll.Guests, roll.Ties
	p.Rules, _, _ = rule.Parse(d.rules)
	if d.clauses != "" {
		p.Class = court.Class(d.court(), p.Guests)
	}
	if d.seats == nil {
		return p, nil
	}
	s := ""
	for name, seat := range d.seats {
		s += "seat " + name + " " + seat + "\n"
	}
	part, _, e := plan.Parse(p, s)
	if e != api.OK {
		panic(s)
	}
	return p, part
}

func (d *desk) court() []api.Clause {
	c, _, _ := court.Parse(d.clauses)
	return c
}

// sit keeps a plan.
func (d *desk) sit(p api.Problem, part []int) {
	d.seats = map[string]string{}
	for line := range strings.Lines(plan.Format(p, part)) {
		name, seat, _ := strings.Cut(strings.TrimPrefix(strings.TrimSpace(line), "seat "), " ")
		d.seats[name] = seat
	}
}

// do returns what Do should, and keeps what is to be kept.
func (d *desk) do(line string) (string, api.Errno) {
	before := *d
	before.seats = nil
	if d.seats != nil {
		before.seats = map[string]string{}
		for name, seat := range d.seats {
			before.seats[name] = seat
		}
	}
	word, _, _ := strings.Cut(line, " ")
	for _, row := range commandRows() {
		cells := strings.Split(row, "|")
		words := strings.Fields(cells[0])
		if words[0] != word || strings.Contains(line, "\n") || strings.Contains(" "+line+" ", "  ") {
			continue
		}
		switch {
		case cells[1] == "yes" && d.seats == nil:
			return "", api.ErrNoPlan
		case !follows(words[1:], strings.Split(line, " ")[1:]):
			return "", api.ErrForm
		}
		answer, e := d.answer(line)
		if e != api.OK {
			*d = before
			return "", e
		}
		if cells[2] == "keeps" {
			d.log += line + "\n"
		}
		return answer, e
	}
	return "", api.ErrCommand
}

// isNumber reports whether a word is a number (DOC.md, R9).
func isNumber(word string) bool {
	return word == "0" || len(word) > 0 && len(word) < 10 && word[0] != '0' && strings.Trim(word, "0123456789") == ""
}

// follows reports whether words follow as a row of the table of commands says.
func follows(form, words []string) bool {
	switch {
	case len(form) == 0:
		return len(words) == 0
	case form[0] == "WORDS":
		return len(words) > 0
	case form[0] == "..":
		return !slices.ContainsFunc(words, func(word string) bool { return !isNumber(word) })
	}
	return len(words) > 0 && (form[0] != "N" || isNumber(words[0])) && follows(form[1:], words[1:])
}

func number(word string) int {
	n, _ := strconv.Atoi(word)
	return n
}

// answer does a line whose words have their form.
func (d *desk) answer(line string) (string, api.Errno) {
	word, _, _ := strings.Cut(line, " ")
	switch word {
	case "table", "guest", "friend", "feud", "clause", "rule", "drop", "moves":
		return d.keep(line)
	case "begin", "clear", "place", "stand", "swap", "turn", "tidy":
		return d.move(line)
	case "solve", "build", "mend", "late", "cancel", "quarrel", "close", "demand":
		return d.seek(line)
	case "count", "cost", "prove", "core", "why":
		return d.judge(line)
	case "show", "card", "chart", "dishes", "route", "trips":
		return d.serve(line)
	}
	return d.inform(line)
}

// keep does the lines that add to what the desk keeps, or take from it.
func (d *desk) keep(line string) (string, api.Errno) {
	p, _ := d.problem()
	word, rest, _ := strings.Cut(line, " ")
	switch word {
	case "table":
		l, _, e := hall.Parse(d.tables + line + "\n")
		d.tables = hall.Format(l)
		return "tables " + lines(d.tables), e
	case "guest", "friend", "feud":
		roll, _, e := guest.Parse(d.guests + d.ties + line + "\n")
		if e == api.OK && len(roll.Guests) > hall.Count(p.Tables) {
			e = api.ErrRoom
		}
		d.enrol(roll)
		if word == "guest" {
			return "guests " + lines(d.guests), e
		}
		return "ties " + lines(d.ties), e
	case "clause":
		c, _, e := court.Parse(d.clauses + rest + "\n")
		d.clauses = court.Format(c)
		return "clauses " + lines(d.clauses), e
	case "rule":
		l, _, e := rule.Parse(rest + "\n")
		if e == api.OK {
			e = rule.CheckRule(p, l[0])
		}
		if e == api.OK && len(p.Rules) == api.MaxRules {
			e = api.ErrMany
		}
		d.rules += rule.Format(l)
		return "rules " + lines(d.rules), e
	case "drop":
		n := number(rest)
		if n >= len(p.Rules) {
			return "", api.ErrUnknown
		}
		d.rules = rule.Format(append(p.Rules[:n:n], p.Rules[n+1:]...))
		return "rules " + lines(d.rules), api.OK
	case "moves":
		if d.moves = number(rest); d.moves > 64 {
			return "", api.ErrCount
		}
		return "ok", api.OK
	}
	panic(line)
}

// move does the lines that let guests sit elsewhere.
func (d *desk) move(line string) (string, api.Errno) {
	p, part := d.problem()
	words := strings.Split(line, " ")
	switch words[0] {
	case "begin":
		d.seats = map[string]string{}
		return "ok", api.OK
	case "clear":
		d.seats = nil
		return "ok", api.OK
	case "place":
		t, found := hall.Find(p.Tables, words[2])
		seat := words[2] + " " + words[3]
		switch {
		case !d.knows(words[1]) || !found:
			return "", api.ErrUnknown
		case number(words[3]) >= hall.Seats(p.Tables[t]):
			return "", api.ErrCount
		}
		for name, taken := range d.seats {
			if name != words[1] && taken == seat {
				return "", api.ErrTaken
			}
		}
		d.seats[words[1]] = seat
		return "ok", api.OK
	case "stand":
		if !d.knows(words[1]) {
			return "", api.ErrUnknown
		}
		delete(d.seats, words[1])
		return "ok", api.OK
	case "swap":
		if !d.knows(words[1], words[2]) {
			return "", api.ErrUnknown
		}
		swapped := map[string]string{}
		for name, seat := range d.seats {
			if i := slices.Index(words[1:], name); i >= 0 {
				name = words[2-i]
			}
			swapped[name] = seat
		}
		d.seats = swapped
		return "ok", api.OK
	case "turn":
		table, found := hall.Find(p.Tables, words[1])
		if !found {
			return "", api.ErrUnknown
		}
		x, e := plan.Act(p, part, table, number(words[2]))
		d.sit(p, x)
		return "ok", e
	case "tidy":
		x, e := plan.Canon(p, part)
		d.sit(p, x)
		return "ok", e
	}
	panic(line)
}

// seek does the lines that look for a plan.
func (d *desk) seek(line string) (string, api.Errno) {
	p, part := d.problem()
	word, rest, _ := strings.Cut(line, " ")
	switch word {
	case "solve":
		best, e := search.Best(p)
		d.sit(p, best.Plan)
		return "cost " + strconv.Itoa(best.Cost), e
	case "build":
		c, e := large.Build(p, number(rest))
		d.sit(p, c.Plan)
		return "cost " + strconv.Itoa(c.Cost) + " bound " + strconv.Itoa(c.Bound), e
	case "mend":
		return d.mend()
	case "late":
		if !strings.HasPrefix(rest+" ", "guest ") {
			return "", api.ErrForm
		}
		roll, _, e := guest.Parse(rest + "\n")
		if e == api.OK {
			e = repair.Check(p, part, api.Change{Kind: api.Late, Guest: roll.Guests[0]})
		}
		if e != api.OK {
			return "", e
		}
		d.guests += guest.Format(roll)
		return d.mend()
	case "cancel", "quarrel", "close", "demand":
		l, _, e := repair.Parse(line + "\n")
		if e == api.OK {
			e = repair.Check(p, part, l[0])
		}
		if e != api.OK {
			return "", e
		}
		d.change(line)
		return d.mend()
	}
	panic(line)
}

// judge does the lines that ask how good plans are.
func (d *desk) judge(line string) (string, api.Errno) {
	p, part := d.problem()
	word, rest, _ := strings.Cut(line, " ")
	j, _, _ := rule.New(p)
	switch word {
	case "count":
		plans, classes, e := search.Count(p)
		return "plans " + strconv.Itoa(plans) + " classes " + strconv.Itoa(classes), e
	case "cost":
		s := "cost " + strconv.Itoa(j.Cost(part))
		if l := j.Broken(part); len(l) > 0 {
			s += " broken" + numbers(l)
		}
		return s, api.OK
	case "prove":
		if !j.Right(part) {
			return "", api.ErrStuck
		}
		best, e := search.Best(p)
		if best.Cost < j.Cost(part) {
			return "cheaper " + strconv.Itoa(best.Cost), e
		}
		return "best", e
	case "core":
		core, e := conflict.Core(p)
		return "core" + numbers(core), e
	case "why":
		l, e := whyModel(p, part, slices.Index(d.names(), rest))
		s := ""
		for _, r := range l {
			t, k, _ := hall.Where(p.Tables, r.Seat)
			s += p.Tables[t].Name + " " + strconv.Itoa(k) + " "
			switch {
			case r.Rule != -1:
				s += "hard " + strconv.Itoa(r.Rule) + "\n"
			case r.More == 0:
				s += "same\n"
			case r.More > 0:
				s += "more " + strconv.Itoa(r.More) + "\n"
			default:
				s += strings.Replace("less "+strconv.Itoa(r.More)+"\n", "-", "", 1)
			}
		}
		return slashed(s), e
	}
	panic(line)
}

// serve does the lines that prepare the dinner.
func (d *desk) serve(line string) (string, api.Errno) {
	p, part := d.problem()
	word, rest, _ := strings.Cut(line, " ")
	switch word {
	case "show":
		return slashed(service.Names(p, part)), api.OK
	case "card":
		if !d.knows(rest) {
			return "", api.ErrUnknown
		}
		if d.seats[rest] == "" {
			return "", api.ErrMiss
		}
		return slashed(service.Card(p, part, slices.Index(d.names(), rest))), api.OK
	case "chart":
		table, found := hall.Find(p.Tables, rest)
		if !found {
			return "", api.ErrUnknown
		}
		return slashed(service.Chart(p, part, table)), api.OK
	case "dishes":
		s := ""
		for _, x := range service.Dishes(p, part) {
			if x.Diet == "" {
				x.Diet = "-"
			}
			s += p.Tables[x.Table].Name + " " + x.Diet + " " + strconv.Itoa(x.N) + "\n"
		}
		return slashed(s), api.OK
	case "route":
		way, n, e := service.Route(p, part)
		s := "length " + strconv.Itoa(n)
		for _, t := range way {
			s += " " + p.Tables[t].Name
		}
		return s, e
	case "trips":
		way, _, e := service.Route(p, part)
		if e != api.OK {
			return "", e
		}
		l, e := service.Trips(p, part, way, number(rest))
		return slashed(service.FormatTrips(p, l)), e
	}
	panic(line)
}

// inform does all other lines that ask.
func (d *desk) inform(line string) (string, api.Errno) {
	p, _ := d.problem()
	words := strings.Split(line, " ")
	switch words[0] {
	case "order":
		l, e := court.Line(d.court(), p.Guests)
		return strings.TrimSpace(d.called(l)), e
	case "classes":
		s := ""
		for _, l := range court.Order(d.court(), p.Guests) {
			s += strings.TrimSpace(d.called(l)) + "\n"
		}
		return slashed(s), api.OK
	case "circles":
		s := ""
		for _, l := range d.book().Circles() {
			s += strings.Join(l, " ") + "\n"
		}
		return slashed(s), api.OK
	case "camps":
		l, ring := d.book().Camps()
		if ring != nil {
			return "none", api.OK
		}
		return "camps" + numbers(l), api.OK
	case "chain":
		l, ok := d.book().Chain(words[1], words[2])
		if !ok {
			return "", api.ErrNone
		}
		return strings.Join(l, " "), api.OK
	case "evenings":
		var sizes []int
		for _, word := range words[2:] {
			sizes = append(sizes, number(word))
		}
		s, e := evening.Plan(len(p.Guests), sizes, number(words[1]))
		return strings.ReplaceAll(strings.TrimSpace(evening.Format(len(p.Guests), s)), "\n", " // "), e
	case "state":
		s := "tables " + lines(d.tables) + " guests " + lines(d.guests) + " ties " + lines(d.ties) + " clauses " + lines(d.clauses) + " rules " + lines(d.rules)
		if d.seats == nil {
			return s + " no plan", api.OK
		}
		return s + " seated " + strconv.Itoa(len(d.seats)), api.OK
	}
	panic(line)
}

// lines returns how many lines a text has.
func lines(s string) string { return strconv.Itoa(strings.Count(s, "\n")) }

// slashed returns the lines of a text, with a slash between two.
func slashed(s string) string { return strings.Join(strings.Split(strings.TrimSpace(s), "\n"), " / ") }

// numbers returns numbers, each behind a space.
func numbers(l []int) string {
	s := ""
	for _, n := range l {
		s += " " + strconv.Itoa(n)
	}
	return s
}

// knows reports whether there are guests with some names.
func (d *desk) knows(names ...string) bool {
	return !slices.ContainsFunc(names, func(name string) bool { return !slices.Contains(d.names(), name) })
}

// enrol keeps a roll.
func (d *desk) enrol(roll api.Roll) {
	d.guests, d.ties = "", ""
	for line := range strings.Lines(guest.Format(roll)) {
		if strings.HasPrefix(line, "guest ") {
			d.guests += line
		} else {
			d.ties += line
		}
	}
}

func (d *desk) book() *guest.Book {
	roll, _, _ := guest.Parse(d.guests + d.ties)
	b, _, _ := guest.Load(roll)
	return b
}

// called returns the names of some guests, each behind a space.
func (d *desk) called(l []int) string {
	s := ""
	for _, g := range l {
		s += " " + d.names()[g]
	}
	return s
}

// mend repairs the plan of the desk.
func (d *desk) mend() (string, api.Errno) {
	p, part := d.problem()
	r, e := repair.Fix(p, part, d.moves)
	d.sit(p, r.Plan)
	return "moved " + strconv.Itoa(r.Moved) + " cost " + strconv.Itoa(r.Cost), e
}

// change makes a change that can be made, line by line.
func (d *desk) change(line string) {
	words := strings.Split(line, " ")
	// without returns the lines of which a test does not hold.
	without := func(s string, test func(words []string) bool) string {
		kept := ""
		for x := range strings.Lines(s) {
			if !test(strings.Fields(x)) {
				kept += x
			}
		}
		return kept
	}
	switch words[0] {
	case "cancel":
		name := words[1]
		d.guests = without(d.guests, func(w []string) bool { return w[1] == name })
		d.ties = without(d.ties, func(w []string) bool { return w[1] == name || w[2] == name })
		d.rules = without(d.rules, func(w []string) bool {
			if w[0] == "weigh" {
				w = w[1:]
			}
			switch w[1] {
			case "apart", "beside", "across", "near", "together":
				return w[2] == name || w[3] == name
			case "at", "seat", "reach":
				return w[2] == name
			}
			return false
		})
		delete(d.seats, name)
	case "quarrel":
		a, b := min(words[1], words[2]), max(words[1], words[2])
		d.ties = without(d.ties, func(w []string) bool { return w[1] == a && w[2] == b })
		ties := slices.Collect(strings.Lines(d.ties + "feud " + a + " " + b + "\n"))
		slices.SortFunc(ties, func(x, y string) int { return slices.Compare(strings.Fields(x)[1:], strings.Fields(y)[1:]) })
		d.ties = strings.Join(ties, "")
		d.rules += "hard apart " + words[1] + " " + words[2] + " 2\n"
	case "close":
		d.rules += "hard limit " + words[1] + " " + words[2] + "\n"
	case "demand":
		d.rules += strings.TrimPrefix(line, "demand ") + "\n"
	}
}

// whyModel returns the reasons why guest g sits where it sits: rule by rule.
func whyModel(p api.Problem, part []int, g int) ([]office.Reason, api.Errno) {
	switch {
	case g < 0:
		return nil, api.ErrUnknown
	case part[g] < 0:
		return nil, api.ErrMiss
	}
	j, _, _ := rule.New(p)
	var l []office.Reason
	for seat := range hall.Count(p.Tables) {
		r := office.Reason{Seat: seat, Guest: -1, Rule: -1}
		x := slices.Clone(part)
		if h, taken := plan.At(p, part, seat); taken {
			r.Guest = h
			x, _ = plan.Swap(p, part, g, h)
		}
		x[g] = seat
		for _, i := range rule.Hard(p) {
			if r.Rule == -1 && j.Faults(x, i) > j.Faults(part, i) {
				r.Rule = i
			}
		}
		r.More = j.Cost(x) - j.Cost(part)
		if seat != part[g] {
			l = append(l, r)
		}
	}
	return l, api.OK
}

// pick returns one of some values.
func pick[T any](r *rand.Rand, values ...T) T { return values[r.Intn(len(values))] }

// anyName returns mostly a name that a guest may have.
func anyName(r *rand.Rand) string {
	if r.Intn(30) == 0 {
		return pick(r, "zoe", "Ann", "-", "r", "abcdefghijklm", "1")
	}
	return pick(r, "ann", "bob", "cid", "dee", "eve")
}

// anyTable returns mostly a name that a table may have.
func anyTable(r *rand.Rand) string {
	if r.Intn(30) == 0 {
		return pick(r, "x", "R", "-", "ann", "7")
	}
	return pick(r, "r", "w", "k")
}

// anyRule returns the words of a rule, mostly of one that can be checked.
func anyRule(r *rand.Rand) string {
	n := " " + strconv.Itoa(r.Intn(4))
	all := func() string { return pick(r, "-", "-", anyTable(r)) }
	s := pick(r, "hard ", "weigh "+strconv.Itoa(r.Intn(9))+" ", "weigh 3 ")
	pair := anyName(r) + " " + anyName(r)
	return s + pick(r,
		"apart "+pair+n, "beside "+pair, "across "+pair, "near "+pair+n, "together "+pair, "at "+anyName(r)+" "+anyTable(r), "seat "+anyName(r)+" "+anyTable(r)+n,
		"alternate "+all(), "host "+all(), "reach "+pick(r, "-", anyName(r)), "speak "+all(), "peace "+all(), "company "+all(), "honour "+all(),
		"fill "+all()+n, "limit "+all()+n, "kitchen "+pick(r, "egg", "fish", "-")+" "+anyTable(r), "mix "+all())
}

// anyGuest returns the line of a guest.
func anyGuest(r *rand.Rand) string {
	rank, from := pick(r, "-", "duke", "count"), pick(r, "-", "spain", "france")
	return "guest " + anyName(r) + " " + rank + " " + from + " " + pick(r, "0", "1990", "2001", "10000") + " " + strconv.Itoa(r.Intn(3)) + " " + pick(r, "-", "egg", "fish") + " " + pick(r, "-", "h", "a", "ha") + pick(r, "", " latin", " latin welsh")
}

// anyClause returns the words of a clause.
func anyClause(r *rand.Rand) string {
	return pick(r, "", "", "among duke ") + pick(r, "rank duke count", "elder", "youth", "side 1 first", "host last", "tongue first welsh", "court last spain", "name", "list", "lot 5", "lot 64")
}

// keepLine returns a line of a command that keeps.
func keepLine(r *rand.Rand) string {
	n := strconv.Itoa(r.Intn(4))
	return pick(r,
		"table "+anyTable(r)+" "+pick(r, "round 3 0", "round 4 0", "row 2 0", "row 3 1", "long 1 1", "row 1 2")+" "+n+" 2"+pick(r, "", " 0", " 0 1"),
		anyGuest(r), anyGuest(r), "friend "+anyName(r)+" "+anyName(r), "feud "+anyName(r)+" "+anyName(r), "clause "+anyClause(r), "rule "+anyRule(r), "rule "+anyRule(r), "drop "+n, "drop "+n,
		"moves "+pick(r, n, "8", "64", "65"), pick(r, "begin", "clear", "tidy"), "place "+anyName(r)+" "+anyTable(r)+" "+n, "place "+anyName(r)+" "+anyTable(r)+" "+n, "place "+anyName(r)+" "+anyTable(r)+" "+n,
		"stand "+anyName(r), "swap "+anyName(r)+" "+anyName(r), "turn "+anyTable(r)+" "+n, "tidy", "solve", "solve", "build "+n, "mend",
		"late "+anyGuest(r), "cancel "+anyName(r), "quarrel "+anyName(r)+" "+anyName(r), "close "+anyTable(r)+" "+n, "demand "+anyRule(r))
}

// askLine returns a line of a command that asks.
func askLine(r *rand.Rand) string {
	n := strconv.Itoa(r.Intn(4))
	return pick(r,
		"count", "cost", "cost", "prove", "core", "core", "core", "why "+anyName(r), "why "+anyName(r), "show", "card "+anyName(r), "chart "+anyTable(r), "dishes", "route", "trips "+n, "order", "classes", "circles", "camps",
		"chain "+anyName(r)+" "+anyName(r), "evenings "+n+" 1 "+n, "evenings "+n+" "+n, "evenings 2 2 2", "state")
}

// anyLine returns some line, now and then one whose words do not have their form.
func anyLine(r *rand.Rand) string {
	line := keepLine(r)
	if r.Intn(3) == 0 {
		line = askLine(r)
	}
	if r.Intn(40) > 0 {
		return line
	}
	words := strings.Split(line, " ")
	i := r.Intn(len(words))
	words[i] = pick(r, words[i], "-1", "01", "x", "", "state", "7", "1\n")
	return strings.Join(words, " ") + pick(r, "", "", " x", " 0", " ", "\n")
}

// start returns lines with which an office may begin.
func start(r *rand.Rand) []string {
	lines := []string{"table r round " + pick(r, "3", "4") + " 0 0 10 1", "table w row 2 0 3 0 0"}
	for _, name := range []string{"ann", "bob", "cid", "dee"}[:2+r.Intn(3)] {
		words := strings.Split(anyGuest(r), " ")
		words[1] = name
		lines = append(lines, strings.Join(words, " "))
	}
	return append(lines, pick(r, "begin", "solve", "state"))
}
