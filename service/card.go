package service

import (
	"cmp"
	"slices"
	"strconv"
	"strings"

	"trestle/api"
	"trestle/hall"
	"trestle/plan"
)

// Card returns the place card of a guest.
func Card(p api.Problem, part []int, g int) string {
	if !isPart(p, part) || g < 0 || g >= len(part) || part[g] == -1 {
		return ""
	}
	return cardOf(p, part, g)
}

// Cards returns the cards of all seated guests.
func Cards(p api.Problem, part []int) string {
	if !isPart(p, part) {
		return ""
	}
	var s strings.Builder
	for _, g := range bySeats(part) {
		s.WriteString(cardOf(p, part, g) + "-\n")
	}
	return s.String()
}

// Names returns the list of guests by name.
func Names(p api.Problem, part []int) string {
	if !isPart(p, part) {
		return ""
	}
	var lines []string
	for g, seat := range part {
		lines = append(lines, lineOf(p.Guests[g].Name, place(p, seat)...))
	}
	// A space comes before all letters, so the lines are in the order of their first words.
	slices.Sort(lines)
	return strings.Join(lines, "")
}

// Chart returns the list of the seats of table t.
func Chart(p api.Problem, part []int, t int) string {
	if !isPart(p, part) || !hasTable(p, t) {
		return ""
	}
	var s strings.Builder
	s.WriteString(lineOf("table", p.Tables[t].Name))
	for k, g := range plan.Guests(p, part, t) {
		name := "-"
		if g != -1 {
			name = p.Guests[g].Name
		}
		s.WriteString(lineOf(strconv.Itoa(k), name))
	}
	return s.String()
}

// cardOf returns the place card of a guest who is seated.
func cardOf(p api.Problem, part []int, g int) string {
	guest := p.Guests[g]
	return lineOf("guest", guest.Name) +
		lineOf("rank", guest.Rank) +
		lineOf("table", place(p, part[g])...) +
		lineOf("diet", guest.Diet) +
		lineOf("beside", beside(p, part, part[g])...)
}

// lineOf returns the line of some words, or nothing if there are no words behind the first one, or only an empty one.
func lineOf(first string, others ...string) string {
	rest := strings.Join(others, " ")
	if rest == "" {
		return ""
	}
	return first + " " + rest + "\n"
}

// place returns the words for a seat: its table's name and its number there, or the word for a guest who has none.
func place(p api.Problem, seat int) []string {
	t, k, seated := hall.Where(p.Tables, seat)
	if !seated {
		return []string{"-"}
	}
	return []string{p.Tables[t].Name, strconv.Itoa(k)}
}

// beside returns the names of those who sit beside a seat, by increasing seats.
func beside(p api.Problem, part []int, seat int) []string {
	var names []string
	for _, near := range hall.Neighbours(p.Tables, seat) {
		g := slices.Index(part, near)
		if g >= 0 && hall.Beside(p.Tables, seat, near) {
			names = append(names, p.Guests[g].Name)
		}
	}
	return names
}

// bySeats returns the guests who are seated, by increasing seats.
func bySeats(part []int) []int {
	var guests []int
	for g, seat := range part {
		if seat != -1 {
			guests = append(guests, g)
		}
	}
	slices.SortFunc(guests, func(g, h int) int { return cmp.Compare(part[g], part[h]) })
	return guests
}
