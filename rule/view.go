package rule

import "trestle/api"

// view is a partial plan, as its judge sees it.
type view struct {
	*Judge
	part   []int
	absent int // how many guests are not seated
}

// count returns the faults of a rule.
func (v view) count(d demand) int {
	n := 0
	d.kind.faults(v, d, func(...int) { n++ })
	return n
}

// certain returns the certain faults of a rule.
func (v view) certain(d demand) int {
	n := v.count(d)
	if d.kind.slack != nil {
		n -= d.kind.slack(v)
	}
	return max(n, 0)
}

// broken returns the hard rules that have faults.
func (v view) broken() []int {
	var list []int
	for i, d := range v.demands {
		if d.Weight == 0 && v.count(d) > 0 {
			list = append(list, i)
		}
	}
	return list
}

// hostsToCome returns how many hosts are not seated.
func (v view) hostsToCome() int {
	n := 0
	for x, g := range v.problem.Guests {
		if g.Host && !v.isSeated(x) {
			n++
		}
	}
	return n
}

// toCome returns how many guests are not seated.
func (v view) toCome() int { return v.absent }

// allUnlessFull returns as much as all faults of guests can be, unless all of them are seated.
func (v view) allUnlessFull() int {
	if v.absent == 0 {
		return 0
	}
	return len(v.part)
}

// isSeated reports whether a guest is seated.
func (v view) isSeated(x int) bool { return v.part[x] >= 0 }

// seatOf returns the seat of a guest who is seated.
func (v view) seatOf(x int) seat { return v.seats[v.part[x]] }

// linkOf returns how two guests sit who are seated.
func (v view) linkOf(x, y int) link {
	one, other := v.seatOf(x), v.seatOf(y)
	if one.table != other.table {
		return link{}
	}
	return one.links[other.place]
}

// asked reports whether a guest who is seated sits at a table asked.
func (v view) asked(d demand, x int) bool { return d.asks(v.seatOf(x).table) }

// guestsAt returns the guests at a table.
func (v view) guestsAt(t int) []int {
	var list []int
	for x := range v.part {
		if v.isSeated(x) && v.seatOf(x).table == t {
			list = append(list, x)
		}
	}
	return list
}

// tellPairs tells of each two guests whom a rule names, who are seated, and who sit wrong.
func (v view) tellPairs(d demand, tell teller, wrong func(x, y int, l link) bool) {
	for i, y := range d.guests {
		for _, x := range d.guests[:i] {
			if v.isSeated(x) && v.isSeated(y) && wrong(x, y, v.linkOf(x, y)) {
				tell(x, y)
			}
		}
	}
}

// tellGuests tells of each guest whom a rule names, who is seated, and who sits wrong.
func (v view) tellGuests(d demand, tell teller, wrong func(x int, s seat) bool) {
	for _, x := range d.guests {
		if v.isSeated(x) && wrong(x, v.seatOf(x)) {
			tell(x)
		}
	}
}

// tellTables tells of each fault of each table asked.
func (v view) tellTables(d demand, tell teller, faults func(guests []int) int) {
	for t := range v.problem.Tables {
		if !d.asks(t) {
			continue
		}
		guests := v.guestsAt(t)
		for range faults(guests) {
			tell(guests...)
		}
	}
}

func (v view) apart(d demand, tell teller) {
	v.tellPairs(d, tell, func(_, _ int, l link) bool { return l.atOneTable && d.N == 0 || l.reached && l.steps < d.N })
}

func (v view) beside(d demand, tell teller) {
	v.tellPairs(d, tell, func(_, _ int, l link) bool { return !l.beside })
}

func (v view) across(d demand, tell teller) {
	v.tellPairs(d, tell, func(_, _ int, l link) bool { return !l.across })
}

func (v view) near(d demand, tell teller) {
	v.tellPairs(d, tell, func(_, _ int, l link) bool { return !l.reached || l.steps > d.N })
}

func (v view) together(d demand, tell teller) {
	v.tellPairs(d, tell, func(_, _ int, l link) bool { return !l.atOneTable })
}

func (v view) elsewhere(d demand, tell teller) {
	v.tellGuests(d, tell, func(_ int, s seat) bool { return s.table != d.at })
}

func (v view) seat(d demand, tell teller) {
	v.tellGuests(d, tell, func(_ int, s seat) bool { return s.table != d.at || s.place != d.N })
}

func (v view) alternate(d demand, tell teller) {
	g := v.problem.Guests
	v.tellPairs(d, tell, func(x, y int, l link) bool { return l.beside && g[x].Side == g[y].Side && v.asked(d, x) })
}

func (v view) hostAt(d demand, tell teller) {
	v.tellTables(d, tell, func(guests []int) int {
		for _, x := range guests {
			if v.problem.Guests[x].Host {
				return 0
			}
		}
		return min(len(guests), 1)
	})
}

func (v view) reach(d demand, tell teller) {
	v.tellGuests(d, tell, func(_ int, s seat) bool { return !s.open })
}

func (v view) speak(d demand, tell teller) {
	v.tellGuests(d, tell, func(x int, s seat) bool {
		alone := true
		for _, y := range v.guestsAt(s.table) {
			if !v.linkOf(x, y).isNear() {
				continue
			}
			if v.bonds[x][y].speak {
				return false
			}
			alone = false
		}
		return !alone && d.asks(s.table)
	})
}

func (v view) peace(d demand, tell teller) {
	v.tellPairs(d, tell, func(x, y int, l link) bool {
		return v.bonds[x][y].tie == api.Feud && l.isNear() && v.asked(d, x)
	})
}

func (v view) company(d demand, tell teller) {
	v.tellPairs(d, tell, func(x, y int, l link) bool {
		return v.bonds[x][y].tie == api.Friend && !l.isNear() && (v.asked(d, x) || v.asked(d, y))
	})
}

func (v view) honour(d demand, tell teller) {
	v.tellPairs(d, tell, func(x, y int, l link) bool {
		rise := v.seatOf(x).level - v.seatOf(y).level
		return l.atOneTable && v.asked(d, x) && rise*(v.classOf(x)-v.classOf(y)) < 0
	})
}

func (v view) fill(d demand, tell teller) {
	v.tellTables(d, tell, func(guests []int) int { return d.N - len(guests) })
}

func (v view) limit(d demand, tell teller) {
	v.tellTables(d, tell, func(guests []int) int { return len(guests) - d.N })
}

func (v view) mix(d demand, tell teller) {
	g := v.problem.Guests
	v.tellPairs(d, tell, func(x, y int, l link) bool { return l.beside && g[x].Court == g[y].Court && v.asked(d, x) })
}

// classOf returns the class of a guest.
func (v view) classOf(x int) int {
	if len(v.problem.Class) == 0 {
		return 0
	}
	return v.problem.Class[x]
}
