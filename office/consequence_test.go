package office_test

import (
	"math/rand"
	"slices"
	"strconv"
	"strings"
	"testing"

	"trestle/api"
	"trestle/conflict"
	"trestle/hall"
	"trestle/office"
	"trestle/rule"
)

// allPlans returns all plans of a problem.
func allPlans(p api.Problem) [][]int {
	plans := [][]int{nil}
	for range p.Guests {
		var longer [][]int
		for _, x := range plans {
			for seat := range hall.Count(p.Tables) {
				if !slices.Contains(x, seat) {
					longer = append(longer, append(slices.Clone(x), seat))
				}
			}
		}
		plans = longer
	}
	return plans
}

// anyOffice returns an office with some rules.
func anyOffice(r *rand.Rand) *office.Office {
	o := office.New()
	for _, line := range start(r) {
		o.Do(line)
	}
	o.Do("feud ann bob")
	o.Do("clause elder")
	for range 3 + r.Intn(12) {
		o.Do("rule " + anyRule(r))
	}
	return o
}

// planOf returns an office's problem, its plan, and a judge.
func planOf(t *testing.T, o *office.Office) (api.Problem, []int, *rule.Judge) {
	t.Helper()
	p := o.Problem()
	j, i, e := rule.New(p)
	if e != api.OK {
		t.Fatal(o.Text(), i, e)
	}
	x, has := o.Plan()
	if has && !j.Valid(x) {
		t.Fatal(o.Text(), x)
	}
	return p, x, j
}

// P12.6, P2, P4: after solve or build the plan is right, after solve prove says best; if there is no right plan, core shows a core.
func TestSolved(t *testing.T) {
	r := rand.New(rand.NewSource(5))
	solved, built, excluded, best := 0, 0, 0, 0
	for range 400 {
		o := anyOffice(r)
		answer, e := o.Do("solve")
		p, x, j := planOf(t, o)
		least := -1
		for _, plan := range allPlans(p) {
			if j.Right(plan) && (least < 0 || j.Cost(plan) < least) {
				least = j.Cost(plan)
			}
		}
		switch {
		case least >= 0:
			solved++
			if e != api.OK || !j.Right(x) || answer != "cost "+strconv.Itoa(least) || j.Cost(x) != least {
				t.Fatalf("%s: solve: %q, %d, %v", o.Text(), answer, e, x)
			}
			tell(t, o, "prove => best\ncore => error 70")
		case e != api.ErrNone:
			t.Fatalf("%s: solve: %q, %d", o.Text(), answer, e)
		default:
			excluded++
			answer, e := o.Do("core")
			if word, _, _ := strings.Cut(answer, " "); word != "core" || e != api.OK {
				t.Fatalf("%s: core: %q, %d", o.Text(), answer, e)
			}
			var core []int
			for _, word := range strings.Fields(answer)[1:] {
				core = append(core, number(word))
			}
			if excludes, e := conflict.Excludes(p, core); !excludes || e != api.OK {
				t.Fatalf("%s: core %v: %d", o.Text(), core, e)
			}
			for i := range core {
				if excludes, _ := conflict.Excludes(p, slices.Delete(slices.Clone(core), i, i+1)); excludes {
					t.Fatalf("%s: core %v", o.Text(), core)
				}
			}
		}
		if answer, e := o.Do("build 3"); e == api.OK {
			built++
			_, x, _ := planOf(t, o)
			cost, bound, _ := strings.Cut(strings.TrimPrefix(answer, "cost "), " bound ")
			if !j.Right(x) || number(cost) != j.Cost(x) || number(bound) > least {
				t.Fatalf("%s: build: %q, %v, not %d", o.Text(), answer, x, least)
			}
		}
		if says, _ := o.Do("prove"); says == "best" {
			best++
			for _, g := range p.Guests {
				l, e := o.Why(g.Name)
				if e != api.OK || slices.ContainsFunc(l, func(r office.Reason) bool { return r.Rule == -1 && r.More < 0 }) {
					t.Fatalf("%s: Why(%s): %v, %d", o.Text(), g.Name, l, e)
				}
			}
		}
	}
	if solved < 100 || built < 100 || excluded < 30 || best < 100 {
		t.Error(solved, built, excluded, best)
	}
}

// P12.6, P6: after mend, and after each change, the plan is right, and no plan that is right moves fewer guests.
func TestMended(t *testing.T) {
	r := rand.New(rand.NewSource(6))
	moved := func(from, to []int) int {
		n := 0
		for g, seat := range from {
			if seat >= 0 && to[g] != seat {
				n++
			}
		}
		return n
	}
	mended, some, none := 0, 0, 0
	for range 400 {
		o := anyOffice(r)
		o.Do("begin")
		for range 12 {
			o.Do(pick(r, "place ", "place ", "stand ") + anyName(r) + pick(r, "", " r 0", " r 1", " r 2", " w 0", " w 1"))
		}
		o.Do(pick(r, "moves 8", "moves 8", "moves 1"))
		_, from, _ := planOf(t, o)
		line := pick(r, "mend", "mend", "close r 2", "demand hard peace -", "quarrel ann bob")
		answer, e := o.Do(line)
		p, x, j := planOf(t, o)
		if e != api.OK && e != api.ErrNone {
			continue
		}
		if e == api.ErrNone {
			none++
			if line != "mend" {
				continue
			}
		}
		most := 8
		if strings.Contains(o.Text(), "moves 1\n") {
			most = 1
		}
		least := 99
		for _, plan := range allPlans(p) {
			if j.Right(plan) {
				least = min(least, moved(from, plan))
			}
		}
		want := "moved " + strconv.Itoa(least) + " cost " + strconv.Itoa(j.Cost(x))
		if e == api.OK && (answer != want || !j.Right(x) || moved(from, x) != least) || e == api.ErrNone && least <= most {
			t.Fatalf("%s: %s from %v: %q, %d, %v, not %d", o.Text(), line, from, answer, e, x, least)
		}
		if e == api.OK {
			mended++
		}
		if least > 0 && least < 99 {
			some++
		}
	}
	if mended < 100 || some < 40 || none < 40 {
		t.Error(mended, some, none)
	}
}

// R4: results share no memory with the office or with each other.
func TestNewMemory(t *testing.T) {
	o := dinner(t)
	tell(t, o, `
		clause elder => clauses 1
		rule hard peace - => rules 1
		rule weigh 3 at ann r => rules 2
		rule weigh 3 mix - => rules 3
		solve => cost 0
		show => ann r 1 / bob r 2 / cid w 0 / dee r 0`)
	text, log := o.Text(), o.Log()
	p, q := o.Problem(), o.Problem()
	x, _ := o.Plan()
	y, _ := o.Plan()
	l, _ := o.Why("ann")
	same := o.Problem()
	spoil := func(numbers []int) {
		numbers = numbers[:cap(numbers)]
		for i := range numbers {
			numbers[i] = -77
		}
	}
	spoil(p.Tables[0].Open)
	spoil(p.Class)
	spoil(x)
	p.Guests[0].Tongues[0] = "none"
	p.Tables[1].Name, p.Guests[1].Name, p.Ties[0].A = "none", "none", "none"
	for i := range p.Rules {
		p.Rules[i] = api.Rule{}
	}
	l[0] = office.Reason{Seat: -9, Guest: -9, Rule: -9, More: -9}
	if !sameProblem(q, same) || !sameProblem(o.Problem(), same) || o.Text() != text || o.Log() != log {
		t.Error("the problem is changed", o.Text())
	}
	if z, _ := o.Plan(); !slices.Equal(y, z) {
		t.Error("the plan is changed", y, z)
	}
	tell(t, o, `
		cost => cost 0
		drop 0 => rules 2
		swap dee bob => ok
		rule hard mix r => rules 3`)
	if !sameProblem(q, same) || slices.Contains(y, -1) {
		t.Error("a result is changed", q, y)
	}
	// What a line with an error did before it was found wrong is not kept, nor does a later line see it.
	tell(t, o, `
		table x round 4 0 0 0 => tables 3
		drop 2 => rules 2
		demand hard beside ann cid => moved 1 cost 3
		begin => ok
		place ann r 0 => ok
		demand hard fill x 24 => error 9
		rule hard mix w => rules 4
		show => ann r 0 / bob - / cid - / dee -`)
	if want := "rule weigh 3 at ann r\nrule weigh 3 mix -\nrule hard beside ann cid\nrule hard mix w\nmoves 8\n"; !strings.Contains(o.Text(), want) {
		t.Error(o.Text())
	}
}

// Two offices have nothing in common.
func TestTwoOffices(t *testing.T) {
	one, other := dinner(t), dinner(t)
	text := other.Text()
	tell(t, one, `
		begin => ok
		place ann r 0 => ok
		moves 3 => ok
		table x row 1 0 0 0 => tables 3`)
	if other.Text() != text || strings.Contains(other.Log(), "begin") {
		t.Error(other.Text(), other.Log())
	}
}

// P1: every function answers, whatever its arguments are; with an error it answers nothing else.
func TestAnyArgument(t *testing.T) {
	r := rand.New(rand.NewSource(7))
	word := func() string {
		return pick(r, "", "-", "0", "1", "2", "3", "8", "64", "65", "999999999", "1000000000", "-1", "01", "ann", "bob", "Ann", "zoe", "r", "w", "guest", "table", "hard", "weigh", "peace", "beside", "round", "row", "rank", "name", "\n", "\xff", "a\x00", "latin")
	}
	for range 200 {
		o := anyOffice(r)
		o.Do(pick(r, "begin", "clear", "solve"))
		for range 60 {
			line := strings.Fields(strings.Split(pick(r, commandRows()...), "|")[0])[0]
			for range r.Intn(9) {
				line += " " + word()
			}
			text, log := o.Text(), o.Log()
			answer, e := o.Do(line)
			if e < api.OK || e > api.ErrLog || e != api.OK && (answer != "" || o.Text() != text || o.Log() != log) || strings.Contains(answer, "\n") {
				t.Fatalf("%s: Do(%q): %q, %d", text, line, answer, e)
			}
			name := word()
			if l, e := o.Why(name); e != api.OK && len(l) != 0 {
				t.Fatalf("%s: Why(%q): %v, %d", text, name, l, e)
			}
		}
		planOf(t, o)
		noise := word() + pick(r, " ", "\n") + word() + pick(r, " ", "\n") + word()
		if s := o.Run(noise); strings.Count(s, "\n") != len(slices.Collect(strings.Lines(noise))) {
			t.Fatalf("Run(%q): %q", noise, s)
		}
		if p, n, e := office.Recover(noise); (p == nil) != (e != api.OK) || n > strings.Count(noise, "\n") || e != api.OK && e != api.ErrLog {
			t.Fatalf("Recover(%q): %d, %d", noise, n, e)
		}
	}
}
