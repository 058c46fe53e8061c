package service

import (
	"slices"
	"strconv"
	"strings"

	"trestle/api"
	"trestle/rule"
)

// maxNumber is the greatest number that a text can tell.
const maxNumber = 999999999

// FormatTrips returns the text of trips.
func FormatTrips(p api.Problem, l []api.Trip) string {
	if !isValid(p) {
		return ""
	}
	var s strings.Builder
	for _, trip := range l {
		if !canWrite(p, trip) {
			return ""
		}
		words := []string{strconv.Itoa(trip.Plates), strconv.Itoa(trip.Steps)}
		for _, t := range trip.Tables {
			words = append(words, p.Tables[t].Name)
		}
		s.WriteString(lineOf("trip", words...))
	}
	return s.String()
}

// ParseTrips returns the trips that a text describes.
func ParseTrips(p api.Problem, text string) ([]api.Trip, int, api.Errno) {
	if _, e := rule.Check(p); e != api.OK {
		return nil, 0, e
	}
	if len(text) > api.MaxText {
		return nil, 0, api.ErrMany
	}
	var l []api.Trip
	for text != "" {
		line, rest, ended := strings.Cut(text, "\n")
		if !ended {
			return nil, len(l), api.ErrForm
		}
		trip, e := readTrip(p, line)
		if e != api.OK {
			return nil, len(l), e
		}
		l, text = append(l, trip), rest
	}
	return l, 0, api.OK
}

// canWrite reports whether a line can tell of a trip.
func canWrite(p api.Problem, trip api.Trip) bool {
	isNone := func(t int) bool { return !hasTable(p, t) }
	isNumber := func(n int) bool { return n >= 0 && n <= maxNumber }
	return len(trip.Tables) > 0 && !slices.ContainsFunc(trip.Tables, isNone) && isNumber(trip.Plates) && isNumber(trip.Steps)
}

// readTrip returns the trip that a line tells of, or the line's error.
func readTrip(p api.Problem, line string) (api.Trip, api.Errno) {
	words := strings.Split(line, " ")
	if len(words) < 4 || words[0] != "trip" || slices.Contains(words, "") {
		return api.Trip{}, api.ErrForm
	}
	var trip api.Trip
	var hasPlates, hasSteps bool
	trip.Plates, hasPlates = readNumber(words[1])
	trip.Steps, hasSteps = readNumber(words[2])
	if !hasPlates || !hasSteps {
		return api.Trip{}, api.ErrForm
	}
	for _, word := range words[3:] {
		t := slices.IndexFunc(p.Tables, func(t api.Table) bool { return t.Name == word })
		if t < 0 {
			return api.Trip{}, api.ErrUnknown
		}
		trip.Tables = append(trip.Tables, t)
	}
	return trip, api.OK
}

// readNumber returns the number that a word stands for: 1 to 9 digits, without leading zeros.
func readNumber(word string) (int, bool) {
	n, err := strconv.Atoi(word)
	if err != nil || n < 0 || len(word) > 9 || strconv.Itoa(n) != word {
		return 0, false
	}
	return n, true
}
