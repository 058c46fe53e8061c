package rule

import "trestle/api"

// field tells what a kind of rules keeps in one of its fields.
type field uint8

const (
	nothing field = iota
	aGuest
	guestOrNone
	aDiet
	aTable
	tableOrNone
	fromZero // a number from 0 to MaxTable
	fromOne  // a number from 1 to MaxTable
	aSeat    // the number of a seat of the table
)

// kind tells what the rules of a kind ask.
type kind struct {
	word           string
	a, b, table, n field
	names          func(n naming, g api.Guest) bool    // can the faults depend on a guest?
	faults         func(v view, d demand, tell teller) // tells each fault
	slack          func(v view) int                    // how many faults those who are not seated may undo; nil if none
}

// teller is told the guests that are to blame for a fault.
type teller func(guests ...int)

// kinds returns all kinds of rules.
func kinds() map[api.RuleKind]kind {
	return map[api.RuleKind]kind{
		api.Apart:     {word: "apart", a: aGuest, b: aGuest, n: fromZero, names: naming.named, faults: view.apart},
		api.Beside:    {word: "beside", a: aGuest, b: aGuest, names: naming.named, faults: view.beside},
		api.Across:    {word: "across", a: aGuest, b: aGuest, names: naming.named, faults: view.across},
		api.Near:      {word: "near", a: aGuest, b: aGuest, n: fromOne, names: naming.named, faults: view.near},
		api.Together:  {word: "together", a: aGuest, b: aGuest, names: naming.named, faults: view.together},
		api.At:        {word: "at", a: aGuest, table: aTable, names: naming.named, faults: view.elsewhere},
		api.Seat:      {word: "seat", a: aGuest, table: aTable, n: aSeat, names: naming.named, faults: view.seat},
		api.Alternate: {word: "alternate", table: tableOrNone, names: naming.sided, faults: view.alternate},
		api.HostAt:    {word: "host", table: tableOrNone, names: naming.anybody, faults: view.hostAt, slack: view.hostsToCome},
		api.Reach:     {word: "reach", a: guestOrNone, names: naming.reaching, faults: view.reach},
		api.Speak:     {word: "speak", table: tableOrNone, names: naming.anybody, faults: view.speak, slack: view.allUnlessFull},
		api.Peace:     {word: "peace", table: tableOrNone, names: naming.feuding, faults: view.peace},
		api.Company:   {word: "company", table: tableOrNone, names: naming.befriended, faults: view.company},
		api.Honour:    {word: "honour", table: tableOrNone, names: naming.anybody, faults: view.honour},
		api.Fill:      {word: "fill", table: tableOrNone, n: fromZero, names: naming.anybody, faults: view.fill, slack: view.toCome},
		api.Limit:     {word: "limit", table: tableOrNone, n: fromZero, names: naming.anybody, faults: view.limit},
		api.Kitchen:   {word: "kitchen", a: aDiet, table: aTable, names: naming.eating, faults: view.elsewhere},
		api.Mix:       {word: "mix", table: tableOrNone, names: naming.sent, faults: view.mix},
	}
}
