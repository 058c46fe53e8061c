package evening

import (
	"slices"

	"trestle/api"
)

// Polish improves a schedule by exchanges, and returns how many were made.
func Polish(n int, s [][][]int, rounds int) ([][][]int, int, api.Errno) {
	if _, e := Check(n, nil, s); e != api.OK {
		return nil, 0, e
	}
	if rounds < 0 {
		return nil, 0, api.ErrArg
	}
	p := &polisher{s: copied(s), met: counted(n, s, pairs), at: make([]int, n), price: squareOf[int](n)}
	made := 0
	for made < rounds && p.improve() {
		made++
	}
	return p.s, made, api.OK
}

// polisher is a schedule whose guests exchange their seats, with how often they meet, and what it knows of the evening at which
// it looks: the table of each guest, and for each table the prices of all guests.
type polisher struct {
	s     [][][]int
	met   square[int]
	at    []int
	price square[int]
}

// improve makes the first exchange that makes the strain less, if there is one.
func (p *polisher) improve() bool {
	for _, tables := range p.s {
		p.look(tables)
		for x := range p.met {
			if y := p.partner(x); y > x {
				p.exchange(tables[p.at[x]], tables[p.at[y]], x, y)
				return true
			}
		}
	}
	return false
}

// look turns to an evening. What two guests pay at each other's tables is half of what their exchange adds to the strain, but
// for their own meetings: one meeting more of guests who meet k times adds 2k + 1, one less adds 1 - 2k.
func (p *polisher) look(tables [][]int) {
	for t, table := range tables {
		for _, g := range table {
			p.at[g] = t
		}
	}
	for x := range p.met {
		now := p.met.sum(x, tables[p.at[x]])
		for t, table := range tables {
			p.price[t][x] = len(table) - 1 + p.met.sum(x, table) - now
		}
	}
}

// partner returns the first guest after x whose exchange with x makes the strain less, or -1.
func (p *polisher) partner(x int) int {
	from := p.at[x]
	price, met := p.price[from], p.met[x]
	for y := x + 1; y < len(price); y++ {
		// Their own meetings are in both prices, but remain.
		if to := p.at[y]; to != from && p.price[to][x]+price[y]-2*met[y] < 0 {
			return y
		}
	}
	return -1
}

// exchange makes a guest of one table and a guest of another one exchange their seats.
func (p *polisher) exchange(one, other []int, x, y int) {
	p.met.count(pairs(one), -1)
	p.met.count(pairs(other), -1)
	one[slices.Index(one, x)], other[slices.Index(other, y)] = y, x
	p.met.count(pairs(one), 1)
	p.met.count(pairs(other), 1)
}
