package rule

import "trestle/api"

// Judge judges partial plans of a problem. New returns judges.
type Judge struct {
	self    *Judge // a copy of a judge is none
	problem api.Problem
	seats   []seat
	bonds   [][]bond // of each two guests
	demands []demand
}

// bond is what two guests have in common.
type bond struct {
	tie   api.TieKind
	speak bool // have they a common tongue?
}

// New returns a judge of a problem.
func New(p api.Problem) (*Judge, int, api.Errno) {
	if i, e := Check(p); e != api.OK {
		return nil, i, e
	}
	p = copyOf(p)
	j := &Judge{problem: p, bonds: bondsOf(p), demands: demandsOf(p)}
	for i, t := range p.Tables {
		j.seats = append(j.seats, seatsAt(i, t)...)
	}
	j.self = j
	return j, 0, api.OK
}

// Problem returns the judge's problem.
func (j *Judge) Problem() api.Problem {
	if !j.isJudge() {
		return api.Problem{}
	}
	return copyOf(j.problem)
}

// Valid reports whether part is a partial plan.
func (j *Judge) Valid(part []int) bool {
	_, ok := j.look(part)
	return ok
}

// Faults returns the faults of a rule.
func (j *Judge) Faults(part []int, i int) int {
	v, ok := j.look(part)
	if !ok || !j.has(i) {
		return 0
	}
	return v.count(j.demands[i])
}

// Least returns the certain faults of a rule.
func (j *Judge) Least(part []int, i int) int {
	v, ok := j.look(part)
	if !ok || !j.has(i) {
		return 0
	}
	return v.certain(j.demands[i])
}

// Score returns the faults of each rule.
func (j *Judge) Score(part []int) []int {
	v, ok := j.look(part)
	if !ok {
		return nil
	}
	list := make([]int, len(j.demands))
	for i, d := range j.demands {
		list[i] = v.count(d)
	}
	return list
}

// Broken returns the hard rules that have faults.
func (j *Judge) Broken(part []int) []int {
	v, ok := j.look(part)
	if !ok {
		return nil
	}
	return v.broken()
}

// Right reports whether part is a plan in which all hard rules hold.
func (j *Judge) Right(part []int) bool {
	v, ok := j.look(part)
	return ok && v.absent == 0 && len(v.broken()) == 0
}

// Cost returns what the faults of weighed rules cost.
func (j *Judge) Cost(part []int) int { return j.sum(part, view.count) }

// Floor returns what the certain faults of weighed rules cost.
func (j *Judge) Floor(part []int) int { return j.sum(part, view.certain) }

// Dead returns the first hard rule that has certain faults.
func (j *Judge) Dead(part []int) (int, bool) {
	v, ok := j.look(part)
	if !ok {
		return 0, false
	}
	for i, d := range j.demands {
		if d.Weight == 0 && v.certain(d) > 0 {
			return i, true
		}
	}
	return 0, false
}

// Blame returns the guests that are part of a fault of a rule.
func (j *Judge) Blame(part []int, i int) []int {
	v, ok := j.look(part)
	if !ok || !j.has(i) {
		return nil
	}
	blamed := make([]bool, len(part))
	d := j.demands[i]
	d.kind.faults(v, d, func(guests ...int) {
		for _, x := range guests {
			blamed[x] = true
		}
	})
	var list []int
	for x, is := range blamed {
		if is {
			list = append(list, x)
		}
	}
	return list
}

// isJudge reports whether New returned j.
func (j *Judge) isJudge() bool { return j != nil && j.self == j }

// has reports whether there is a rule of that index.
func (j *Judge) has(i int) bool { return i >= 0 && i < len(j.demands) }

// sum returns the sum, over the weighed rules, of the weight times what counts.
func (j *Judge) sum(part []int, counted func(v view, d demand) int) int {
	v, ok := j.look(part)
	if !ok {
		return 0
	}
	cost := 0
	for _, d := range j.demands {
		if d.Weight > 0 {
			cost += d.Weight * counted(v, d)
		}
	}
	return cost
}

// look returns the view of a partial plan, if part is one.
func (j *Judge) look(part []int) (view, bool) {
	if !j.isJudge() || len(part) != len(j.problem.Guests) {
		return view{}, false
	}
	v := view{Judge: j, part: part}
	taken := make([]bool, len(j.seats))
	for _, s := range part {
		switch {
		case s == -1:
			v.absent++
		case s < 0 || s >= len(taken) || taken[s]:
			return view{}, false
		default:
			taken[s] = true
		}
	}
	return v, true
}

// bondsOf returns what each two guests of a problem have in common.
func bondsOf(p api.Problem) [][]bond {
	book := bookOf(p)
	rows := make([][]bond, len(p.Guests))
	for x, g := range p.Guests {
		rows[x] = make([]bond, len(p.Guests))
		for y, h := range p.Guests {
			tie, _ := book.Tied(g.Name, h.Name)
			rows[x][y] = bond{tie, len(book.Common(g.Name, h.Name)) > 0}
		}
	}
	return rows
}
