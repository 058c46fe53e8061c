package service

import (
	"cmp"
	"slices"

	"trestle/api"
	"trestle/plan"
)

// Trips cuts a way into trips.
func Trips(p api.Problem, part, way []int, most int) ([]api.Trip, api.Errno) {
	if _, e := plan.CheckPart(p, part); e != api.OK {
		return nil, e
	}
	plates := platesAt(p, part)
	if most < 1 || !take(slices.Clone(plates), way) {
		return nil, api.ErrArg
	}
	if slices.ContainsFunc(way, func(t int) bool { return plates[t] > most }) {
		return nil, api.ErrRoute
	}
	cuts := bestCuts(p, plates, way, most)
	var trips []api.Trip
	for i := 0; i < len(way); i += cuts[i].tables {
		trips = append(trips, tripOver(p, plates, way[i:i+cuts[i].tables]))
	}
	return trips, api.OK
}

// CheckTrips reports whether trips serve all guests.
func CheckTrips(p api.Problem, part []int, l []api.Trip, most int) (int, api.Errno) {
	if _, e := plan.CheckPart(p, part); e != api.OK {
		return 0, e
	}
	if most < 1 {
		return 0, api.ErrArg
	}
	plates := platesAt(p, part)
	left := slices.Clone(plates)
	for i, trip := range l {
		if len(trip.Tables) == 0 || !take(left, trip.Tables) {
			return i, api.ErrRoute
		}
		right := tripOver(p, plates, trip.Tables)
		if trip.Plates != right.Plates || trip.Steps != right.Steps || trip.Plates > most {
			return i, api.ErrRoute
		}
	}
	if len(served(left)) > 0 {
		return len(l), api.ErrRoute
	}
	return 0, api.OK
}

// take takes the plates of some tables away from those that are left. It reports whether these are tables, and there were
// plates for each of them.
func take(left []int, tables []int) bool {
	for _, t := range tables {
		if t < 0 || t >= len(left) || left[t] == 0 {
			return false
		}
		left[t] = 0
	}
	return true
}

// tripOver returns the trip over some tables.
func tripOver(p api.Problem, plates, tables []int) api.Trip {
	trip := api.Trip{Tables: slices.Clone(tables), Steps: length(p, tables)}
	for _, t := range tables {
		trip.Plates += plates[t]
	}
	return trip
}

// cut says how a way is cut into trips: the sum of their lengths, how many they are, and how many tables the first one has.
type cut struct {
	steps, trips, tables int
}

// bestCuts returns for each index of a way how the rest of the way from there on is best cut. No table has too many plates.
func bestCuts(p api.Problem, plates, way []int, most int) []cut {
	cuts := make([]cut, len(way)+1)
	for i := range slices.Backward(way) {
		carried := 0
		for end := i + 1; end <= len(way); end++ {
			carried += plates[way[end-1]]
			if carried > most {
				break
			}
			rest := cuts[end]
			c := cut{length(p, way[i:end]) + rest.steps, rest.trips + 1, end - i}
			// Of equal ones the last one has the most tables in its first trip.
			if end == i+1 || !cuts[i].betterThan(c) {
				cuts[i] = c
			}
		}
	}
	return cuts
}

// betterThan reports whether one way to cut has a lesser sum than another one, or the same with fewer trips.
func (c cut) betterThan(d cut) bool {
	return cmp.Or(cmp.Compare(c.steps, d.steps), cmp.Compare(c.trips, d.trips)) < 0
}
