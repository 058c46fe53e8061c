package service_test

import (
	"math"
	"math/rand"
	"slices"
	"strings"
	"testing"

	"trestle/api"
	"trestle/service"
)

// P11.6: texts and the trips that they tell of, both ways.
func TestTripTexts(t *testing.T) {
	p, _ := dinner()
	for _, x := range []struct {
		text string
		l    []api.Trip
	}{
		{"", nil},
		{"trip 3 10 sun end\ntrip 1 4 bar\n", []api.Trip{trip(3, 10, 0, 2), trip(1, 4, 1)}},
		{"trip 0 0 bar\n", []api.Trip{trip(0, 0, 1)}},
		{"trip 999999999 999999999 bar bar sun end bar\n", []api.Trip{trip(999999999, 999999999, 1, 1, 0, 2, 1)}},
		{"trip 1 0 end\ntrip 1 0 end\ntrip 0 1 end\n", []api.Trip{trip(1, 0, 2), trip(1, 0, 2), trip(0, 1, 2)}},
	} {
		if got := service.FormatTrips(p, x.l); got != x.text {
			t.Errorf("FormatTrips(%v): %q", x.l, got)
		}
		if got, line, e := service.ParseTrips(p, x.text); !sameTrips(got, x.l) || line != 0 || e != api.OK {
			t.Errorf("ParseTrips(%q): %v, %d, %d", x.text, got, line, e)
		}
	}
}

// P11.6: a table that is called like a word of the form.
func TestTripNames(t *testing.T) {
	p := api.Problem{Tables: []api.Table{{Name: "trip", Shape: api.Round, A: 1}, {Name: "abcdefghijkl", Shape: api.Round, A: 1}}}
	text := "trip 1 2 trip abcdefghijkl trip\n"
	if got, line, e := service.ParseTrips(p, text); !sameTrips(got, []api.Trip{trip(1, 2, 0, 1, 0)}) || line != 0 || e != api.OK || service.FormatTrips(p, got) != text {
		t.Errorf("%v, %d, %d", got, line, e)
	}
}

// P11.6: lines that do not have the form of a trip, as the first line and behind another one.
func TestTripForms(t *testing.T) {
	p, _ := dinner()
	for _, line := range []string{
		"\n", " \n", "trip\n", "trip 1\n", "trip 1 2\n", "trip 1 2 \n", "trip 1 2", "trip 1 2 sun", "trip 1 2 sun \n", " trip 1 2 sun\n", "trip  1 2 sun\n", "trip 1  2 sun\n", "trip 1 2  sun\n", "trip 1 2 sun  bar\n",
		"Trip 1 2 sun\n", "trips 1 2 sun\n", "way 1 2 sun\n", "1 2 sun bar\n", "sun 1 2 trip\n", "trip sun 1 2\n", "trip 1 sun 2\n", "trip one 2 sun\n", "trip 1 two sun\n",
		"trip 01 2 sun\n", "trip 1 02 sun\n", "trip 00 2 sun\n", "trip -1 2 sun\n", "trip 1 -2 sun\n", "trip +1 2 sun\n", "trip 1 +2 sun\n", "trip 1.0 2 sun\n", "trip 0x1 2 sun\n", "trip 1_0 2 sun\n", "trip - 2 sun\n", "trip 1 - sun\n",
		"trip 1000000000 2 sun\n", "trip 1 1000000000 sun\n", "trip 0000000001 2 sun\n", "trip 1 99999999999999999999999 sun\n", "trip ١ 2 sun\n",
		"trip\t1 2 sun\n", "trip 1\t2 sun\n", "trip 1 2\tsun\n", "\x00\n", "trip x 2 moon\n", "trip 1 2 moon", "trip 1 2 moon \n",
	} {
		for before := range 3 {
			text := strings.Repeat("trip 1 2 sun\n", before) + line
			if got, i, e := service.ParseTrips(p, text); len(got) != 0 || i != before || e != api.ErrForm {
				t.Errorf("ParseTrips(%q): %v, %d, %d", text, got, i, e)
			}
		}
	}
}

// P11.6: words that are no names of tables, and the first wrong line.
func TestTripErrors(t *testing.T) {
	p, _ := dinner()
	for _, x := range []struct {
		text string
		line int
		e    api.Errno
	}{
		{"trip 1 2 moon\n", 0, api.ErrUnknown}, {"trip 1 2 sun moon\n", 0, api.ErrUnknown}, {"trip 1 2 moon sun\n", 0, api.ErrUnknown}, {"trip 1 2 su\n", 0, api.ErrUnknown}, {"trip 1 2 suns\n", 0, api.ErrUnknown},
		{"trip 1 2 0\n", 0, api.ErrUnknown}, {"trip 1 2 3\n", 0, api.ErrUnknown}, {"trip 1 2 -\n", 0, api.ErrUnknown}, {"trip 1 2 SUN\n", 0, api.ErrUnknown}, {"trip 1 2 ann\n", 0, api.ErrUnknown}, {"trip 1 2 sun\t\n", 0, api.ErrUnknown}, {"trip 1 2 sun\r\n", 0, api.ErrUnknown}, {"trip 1 2 \xff\n", 0, api.ErrUnknown},
		{"trip 1 2 sun\ntrip 3 1 moon\n", 1, api.ErrUnknown}, {"trip 1 2 moon\ntrip\n", 0, api.ErrUnknown}, {"trip\ntrip 1 2 moon\n", 0, api.ErrForm}, {"trip 1 2 sun\ntrip 1 2 bar\ntrip 1 2 moon\ntrip", 2, api.ErrUnknown},
		{"trip 1 2 sun\n\n", 1, api.ErrForm}, {"trip 1 2 sun\ntrip 1 2 moon", 1, api.ErrForm},
	} {
		if got, i, e := service.ParseTrips(p, x.text); len(got) != 0 || i != x.line || e != x.e {
			t.Errorf("ParseTrips(%q): %v, %d, %d, not %d, %d", x.text, got, i, e, x.line, x.e)
		}
	}
}

// P11.6: the limit of a text's length, which comes before its lines and behind the problem.
func TestTripTextLimit(t *testing.T) {
	p, _ := dinner()
	trips := strings.Repeat("trip 1 2 sun end\n", 3855) // 65535 bytes
	for _, x := range []struct {
		text string
		n    int
		line int
		e    api.Errno
	}{
		{trips, 3855, 0, api.OK}, {trips + "\n", 0, 3855, api.ErrForm}, {trips + "\n\n", 0, 0, api.ErrMany},
		{strings.Repeat("a", api.MaxText), 0, 0, api.ErrForm}, {strings.Repeat("a", api.MaxText+1), 0, 0, api.ErrMany}, {"trip 1 2" + strings.Repeat(" sun", 16381) + "\n\n\n\n", 0, 1, api.ErrForm},
		{"trip 1 2" + strings.Repeat(" bar", 16381) + "\n", 1, 0, api.OK}, {strings.Repeat("trip 1 2 sun\n", 6000), 0, 0, api.ErrMany},
	} {
		if got, i, e := service.ParseTrips(p, x.text); len(got) != x.n || i != x.line || e != x.e {
			t.Errorf("ParseTrips(%.20q.., %d bytes): %d trips, %d, %d", x.text, len(x.text), len(got), i, e)
		}
	}
	for _, x := range fails(t) {
		for _, text := range []string{"", "trip 1 2 sun\n", "trip 1 2 sun\ntrip\n", "trip 1 2 moon\n", strings.Repeat("a", api.MaxText+1)} {
			if got, i, e := service.ParseTrips(x.p, text); len(got) != 0 || i != 0 || e != x.e {
				t.Errorf("ParseTrips(%v, %.20q): %v, %d, %d", x.p, text, got, i, e)
			}
		}
	}
}

// P11.6: trips that no line tells of, alone and behind others, have no text.
func TestNoTripText(t *testing.T) {
	p, _ := dinner()
	good := trip(3, 10, 0, 2)
	for _, bad := range []api.Trip{
		{}, trip(1, 2), {Tables: []int{}, Plates: 1, Steps: 2}, trip(1, 2, 3), trip(1, 2, -1), trip(1, 2, 0, 1, 2, 3), trip(1, 2, math.MaxInt), trip(1, 2, math.MinInt, 0),
		trip(-1, 2, 0), trip(1, -1, 0), trip(1000000000, 2, 0), trip(1, 1000000000, 0), trip(math.MinInt, 2, 0), trip(1, math.MinInt, 0), trip(math.MaxInt, 2, 0), trip(1, math.MaxInt, 0),
	} {
		for _, l := range [][]api.Trip{{bad}, {good, bad}, {bad, good}} {
			if got := service.FormatTrips(p, l); got != "" {
				t.Errorf("FormatTrips(%v): %q", l, got)
			}
		}
	}
	for _, x := range fails(t) {
		if got := service.FormatTrips(x.p, []api.Trip{trip(3, 10, 0)}); got != "" {
			t.Errorf("FormatTrips(%v): %q", x.p, got)
		}
	}
}

// P11.6: there and back, of many lists of trips.
func TestTripsThereAndBack(t *testing.T) {
	r := rand.New(rand.NewSource(11))
	for range 500 {
		p, _ := anyFeast(r, 1+r.Intn(16))
		var l []api.Trip
		for range r.Intn(5) {
			x := trip(pick(r, 0, 1, 64, 999999999), pick(r, 0, 10, 4000, 999999999))
			for range 1 + r.Intn(17) {
				x.Tables = append(x.Tables, r.Intn(len(p.Tables)))
			}
			l = append(l, x)
		}
		text := service.FormatTrips(p, l)
		got, line, e := service.ParseTrips(p, text)
		if !sameTrips(got, l) || line != 0 || e != api.OK || service.FormatTrips(p, got) != text || strings.Count(text, "\n") != len(l) {
			t.Fatalf("%v: %q, %v, %d, %d", l, text, got, line, e)
		}
	}
}

// P11.6: texts with changes here and there: what can be read gives the same text.
func TestTripsBackAndThere(t *testing.T) {
	r := rand.New(rand.NewSource(12))
	p, _ := dinner()
	read := 0
	for range 20000 {
		text := []byte("trip 3 10 sun end\ntrip 1 4 bar\ntrip 0 99 bar sun\n")
		for range 1 + r.Intn(3) {
			i := r.Intn(len(text))
			switch r.Intn(3) {
			case 0:
				text = slices.Delete(text, i, i+1)
			case 1:
				text = slices.Insert(text, i, pick(r, []byte(" \n0195trip-")...))
			default:
				text[i] = pick(r, []byte(" \n0195trip-")...)
			}
		}
		got, line, e := service.ParseTrips(p, string(text))
		if e == api.OK {
			read++
		}
		if e == api.OK && (service.FormatTrips(p, got) != string(text) || line != 0) || e != api.OK && len(got) != 0 {
			t.Fatalf("%q: %v, %d, %d", text, got, line, e)
		}
	}
	if read < 500 {
		t.Errorf("only %d were read", read)
	}
}
