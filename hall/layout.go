package hall

import (
	"iter"

	"trestle/api"
)

// layout tells how the seats of a shape lie. All questions but fits are asked with sizes that fit,
// and of two seats the lesser one comes first.
type layout struct {
	word   string
	fits   func(a, b int) bool
	seats  func(a, b int) int
	honour func(a, b int) int
	beside func(a, b, k, m int) bool
	across func(a, b, k, m int) bool
	moves  func(a, b int) iter.Seq[[]int] // the permutations that may be turns; some may come twice
}

// layoutOf returns the layout of a shape.
func layoutOf(s api.Shape) (layout, bool) {
	switch s {
	case api.Round:
		return roundLayout(), true
	case api.Long:
		return longLayout(), true
	case api.Horseshoe:
		return shoeLayout(), true
	case api.Row:
		return rowLayout(), true
	}
	return layout{}, false
}

// shapeOf returns the shape that a word names.
func shapeOf(word string) (api.Shape, bool) {
	for s := api.Round; s <= api.Row; s++ {
		if y, ok := layoutOf(s); ok && y.word == word {
			return s, true
		}
	}
	return 0, false
}

func roundLayout() layout {
	return layout{
		word:   "round",
		fits:   func(a, b int) bool { return a >= 1 && a <= api.MaxTable && b == 0 },
		seats:  func(a, _ int) int { return a },
		honour: func(_, _ int) int { return 0 },
		beside: func(a, _, k, m int) bool { return m == k+1 || k == 0 && m == a-1 },
		across: func(a, _, k, m int) bool { return a%2 == 0 && m-k == a/2 },
		moves:  roundMoves,
	}
}

func longLayout() layout {
	return layout{
		word:  "long",
		fits:  func(a, b int) bool { return a >= 1 && a <= 11 && b >= 0 && b <= 2 },
		seats: func(a, b int) int { return 2*a + b },
		honour: func(a, b int) int {
			if b == 0 {
				return a / 2
			}
			return a
		},
		beside: func(a, b, k, m int) bool {
			corner := b == 0 && m == a
			closing := b == 2 && k == 0 && m == nearHead(a)
			return m == k+1 && !corner || closing
		},
		across: func(a, b, k, m int) bool {
			if b == 2 && m == nearHead(a) {
				return k == a
			}
			return k < a && m == otherSide(a, b, k)
		},
		moves: longMoves,
	}
}

// nearHead returns the seat at the near head of a long table that has both heads.
func nearHead(a int) int { return 2*a + 1 }

// otherSide returns the seat across from a seat of a side of a long table.
func otherSide(a, b, k int) int { return 2*a - 1 + min(b, 1) - k }

func shoeLayout() layout {
	return layout{
		word:   "horseshoe",
		fits:   func(a, b int) bool { return a >= 1 && a <= 8 && b >= 1 && b <= 8 },
		seats:  func(a, b int) int { return a + 2*b },
		honour: func(a, b int) int { return b + a/2 },
		beside: func(_, _, k, m int) bool { return m == k+1 },
		across: func(a, b, k, m int) bool { return k < b && m == a+2*b-1-k },
		moves:  func(a, b int) iter.Seq[[]int] { return reversals(a + 2*b) },
	}
}

func rowLayout() layout {
	return layout{
		word:   "row",
		fits:   func(a, b int) bool { return a >= 1 && a <= api.MaxTable && b >= 0 && b <= a },
		seats:  func(a, _ int) int { return a },
		honour: func(a, _ int) int { return a / 2 },
		beside: func(_, b, k, m int) bool { return m == k+1 && (b == 0 || m%b != 0) },
		across: func(_, _, _, _ int) bool { return false },
		moves:  func(a, _ int) iter.Seq[[]int] { return reversals(a) },
	}
}

// layoutAt returns the layout of a valid table.
func layoutAt(t api.Table) layout {
	s, _ := layoutOf(t.Shape)
	return s
}

// seatsOf returns the number of seats of a valid table.
func seatsOf(t api.Table) int { return layoutAt(t).seats(t.A, t.B) }

// honourOf returns the seat of honour of a valid table.
func honourOf(t api.Table) int { return layoutAt(t).honour(t.A, t.B) }

// besideAt reports whether two seats of a valid table are beside each other.
func besideAt(t api.Table, k, m int) bool {
	return k != m && layoutAt(t).beside(t.A, t.B, min(k, m), max(k, m))
}

// acrossAt reports whether two seats of a valid table are across from each other.
func acrossAt(t api.Table, k, m int) bool {
	return k != m && layoutAt(t).across(t.A, t.B, min(k, m), max(k, m))
}

// nearAt reports whether two seats of a valid table are near each other.
func nearAt(t api.Table, k, m int) bool { return besideAt(t, k, m) || acrossAt(t, k, m) }
