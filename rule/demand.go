package rule

import (
	"trestle/api"
	"trestle/guest"
	"trestle/hall"
)

// demand is a rule of a valid problem, with what it asks and of whom.
type demand struct {
	api.Rule
	kind   kind
	at     int   // the table that it names, or -1
	guests []int // those on whom its faults can depend
}

// demandsOf returns the rules of a valid problem as demands.
func demandsOf(p api.Problem) []demand {
	all, book := kinds(), bookOf(p)
	list := make([]demand, len(p.Rules))
	for i, r := range p.Rules {
		d := demand{Rule: r, kind: all[r.Kind], at: -1}
		if t, ok := hall.Find(p.Tables, r.Table); ok {
			d.at = t
		}
		for x, g := range p.Guests {
			if d.kind.names(naming{r, book}, g) {
				d.guests = append(d.guests, x)
			}
		}
		list[i] = d
	}
	return list
}

// asks reports whether a table is one of the tables asked.
func (d demand) asks(t int) bool { return d.at < 0 || d.at == t }

// bookOf returns the guest book of a valid problem.
func bookOf(p api.Problem) *guest.Book {
	book, _, _ := guest.Load(api.Roll{Guests: p.Guests, Ties: p.Ties})
	return book
}

// naming is a rule that names guests of a book.
type naming struct {
	api.Rule
	book *guest.Book
}

func (n naming) anybody(api.Guest) bool { return true }

func (n naming) named(g api.Guest) bool { return g.Name == n.A || g.Name == n.B }

func (n naming) sided(g api.Guest) bool { return g.Side != 0 }

func (n naming) reaching(g api.Guest) bool { return g.Name == n.A || n.A == "" && g.Access }

func (n naming) feuding(g api.Guest) bool { return len(n.book.With(g.Name, api.Feud)) > 0 }

func (n naming) befriended(g api.Guest) bool { return len(n.book.With(g.Name, api.Friend)) > 0 }

func (n naming) eating(g api.Guest) bool { return g.Diet == n.A }

func (n naming) sent(g api.Guest) bool { return g.Court != "" }
