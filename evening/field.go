package evening

// Add returns the sum of two elements of the field with q elements.
func Add(q, a, b int) (int, bool) {
	f, ok := fieldOf(q)
	if !ok || !f.has(a) || !f.has(b) {
		return 0, false
	}
	return f.plus(a, 1, b), true
}

// Mul returns the product of two elements of the field with q elements.
func Mul(q, a, b int) (int, bool) {
	f, ok := fieldOf(q)
	if !ok || !f.has(a) || !f.has(b) {
		return 0, false
	}
	return f.times(a, b), true
}

// field is a field with q elements, which is a power of the prime p. An element's digits in base p are the coefficients of a
// polynomial; rest is what is left of the least power of x that is no element.
type field struct{ q, p, rest int }

// fieldOf returns the field with q elements, if q is a field order.
func fieldOf(q int) (field, bool) {
	switch q {
	case 2, 3, 5, 7, 11, 13:
		return field{q: q, p: q}, true
	case 4, 8, 16:
		// Modulo 2, x^2, x^3 and x^4 all leave x + 1.
		return field{q: q, p: 2, rest: 3}, true
	case 9:
		// Modulo 3, x^2 leaves -1.
		return field{q: q, p: 3, rest: 2}, true
	}
	return field{}, false
}

// has reports whether a number is an element.
func (f field) has(a int) bool { return a >= 0 && a < f.q }

// plus adds to an element another one that is multiplied by a digit.
func (f field) plus(a, digit, b int) int {
	sum := 0
	for unit := 1; unit < f.q; unit *= f.p {
		sum += (a/unit + digit*(b/unit)) % f.p * unit
	}
	return sum
}

// times multiplies two elements, from the highest digit of the second one to the lowest.
func (f field) times(a, b int) int {
	product := 0
	for unit := f.q / f.p; unit > 0; unit /= f.p {
		product = f.plus(f.raised(product), b/unit%f.p, a)
	}
	return product
}

// raised multiplies an element by x.
func (f field) raised(a int) int {
	top := f.q / f.p
	return f.plus(a%top*f.p, a/top, f.rest)
}
