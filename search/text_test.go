package search_test

import (
	"math"
	"math/rand"
	"slices"
	"strconv"
	"strings"
	"testing"

	"trestle/api"
	"trestle/search"
)

// text is the text of the proof of 8 steps of the chapter's first example.
const text = "case anna\ncase boris\nbroken 0\nbroken 0\nbroken 0\nturned 2\nturned 4\nturned 1\n"

// P6.7: the texts of proofs, and what has none.
func TestFormatProof(t *testing.T) {
	p := ring(apart)
	for _, x := range []struct {
		steps []api.Step
		text  string
	}{
		{shorter(), text},
		{nil, ""},
		{[]api.Step{dear()}, "dear\n"},
		{[]api.Step{caseOf(2), caseOf(2)}, "case carl\ncase carl\n"},
		{[]api.Step{brokenBy(63), turnedBy(0)}, "broken 63\nturned 0\n"},
		{[]api.Step{brokenBy(999999999), turnedBy(999999999)}, "broken 999999999\nturned 999999999\n"},
	} {
		if s := search.FormatProof(p, x.steps); s != x.text {
			t.Errorf("%v: %q", x.steps, s)
		}
	}
	var wrong []api.Step
	for k := range 256 {
		wrong = append(wrong, api.Step{Kind: api.StepKind(k), N: -1}, api.Step{Kind: api.StepKind(k), N: 1000000000}, api.Step{Kind: api.StepKind(k), N: math.MinInt}, api.Step{Kind: api.StepKind(k), N: math.MaxInt})
		if k == 0 || k > 4 {
			wrong = append(wrong, api.Step{Kind: api.StepKind(k)}, api.Step{Kind: api.StepKind(k), N: 1})
		}
	}
	wrong = append(wrong, caseOf(3), api.Step{Kind: api.Dear, N: 1})
	for _, s := range wrong {
		for _, steps := range [][]api.Step{{s}, {s, dear()}, {caseOf(0), s}, {dear(), s, dear()}} {
			if got := search.FormatProof(p, steps); got != "" {
				t.Errorf("%v: %q", steps, got)
			}
		}
	}
	for _, x := range fails() {
		for _, steps := range [][]api.Step{nil, {dear()}, {caseOf(0)}} {
			if got := search.FormatProof(x.p, steps); got != "" {
				t.Errorf("of a problem with error %d: %q", x.e, got)
			}
		}
	}
}

// P6.7: a text has at most MaxText bytes, whether it is written or read.
func TestTextLimit(t *testing.T) {
	p := ring()
	// 6553 lines of 10 bytes are 65530 bytes.
	tens := slices.Repeat([]api.Step{caseOf(0)}, 6553)
	for _, x := range []struct {
		last  []api.Step
		bytes int
	}{
		{nil, 65530}, {[]api.Step{dear()}, 65535}, {[]api.Step{dear(), dear()}, 0}, {[]api.Step{caseOf(0)}, 0}, {[]api.Step{turnedBy(0)}, 0}, {[]api.Step{dear(), {}}, 0},
	} {
		if s := search.FormatProof(p, slices.Concat(tens, x.last)); len(s) != x.bytes {
			t.Errorf("%v: %d bytes", x.last, len(s))
		}
	}
	// 6552 lines of 10 bytes, one of 11 and one of 5 are 65536 bytes.
	most := append(slices.Clone(tens[:6552]), caseOf(1), dear())
	s := search.FormatProof(p, most)
	if len(s) != api.MaxText {
		t.Errorf("%d bytes", len(s))
	}
	if steps, line, e := search.ParseProof(p, s); !slices.Equal(steps, most) || line != 0 || e != api.OK {
		t.Errorf("%d steps, %d, %d", len(steps), line, e)
	}
	for _, x := range []string{s + "\n", s + "dear\n", strings.Repeat(" ", api.MaxText+1), strings.Repeat("\n", api.MaxText+1)} {
		if steps, line, e := search.ParseProof(p, x); steps != nil || line != 0 || e != api.ErrMany {
			t.Errorf("%d bytes: %d steps, %d, %d", len(x), len(steps), line, e)
		}
	}
	if steps, line, e := search.ParseProof(p, strings.Repeat("\n", api.MaxText)); steps != nil || line != 0 || e != api.ErrForm {
		t.Errorf("%d steps, %d, %d", len(steps), line, e)
	}
	// One of 12 and one of 5 are one byte more.
	if s := search.FormatProof(p, append(slices.Clone(tens[:6552]), brokenBy(1000), dear())); s != "" {
		t.Errorf("%d bytes", len(s))
	}
	if s := search.FormatProof(p, slices.Repeat([]api.Step{dear()}, 1<<20)); s != "" {
		t.Errorf("%d bytes", len(s))
	}
}

// P6.7: the proofs that texts tell of, and the errors of lines.
func TestParseProof(t *testing.T) {
	p := ring(apart)
	p.Guests[2].Name = "dear"
	for _, x := range []struct {
		text  string
		steps []api.Step
	}{
		{"", nil},
		{text, shorter()},
		{"dear\n", []api.Step{dear()}},
		{"case dear\ncase dear\n", []api.Step{caseOf(2), caseOf(2)}},
		{"broken 7\nturned 999999999\nbroken 0\n", []api.Step{brokenBy(7), turnedBy(999999999), brokenBy(0)}},
	} {
		if steps, line, e := search.ParseProof(p, x.text); !slices.Equal(steps, x.steps) || line != 0 || e != api.OK {
			t.Errorf("%q: %v, %d, %d", x.text, steps, line, e)
		}
	}
	form := []string{
		"", " ", "case", "case ", "case  anna", " case anna", "case anna ", "case anna boris", "case anna 0", "Case anna", "cases anna", "anna", "close anna",
		"broken", "broken ", "broken  0", "broken 0 ", "broken 0 0", "broken 00", "broken 01", "broken -1", "broken -0", "broken +1", "broken 1000000000", "broken 0000000001", "broken x", "broken 1x", "broken 0x1", "broken 1_0", "broken ٣", "broken anna", "Broken 0",
		"turned", "turned ", "turned  0", "turned 0 ", "turned 0 0", "turned 00", "turned 01", "turned -1", "turned +1", "turned 1000000000", "turned 99999999999999999999", "turned anna", "turnedd 0",
		"dear ", " dear", "dear 0", "dear anna", "dearer", "Dear", "dear\r", "dear\x00", "-", "\xff",
	}
	unknown := []string{"case dora", "case -", "case 0", "case Anna", "case annaa", "case ann", "case anna\r", "case \x00", "case \xff", "case " + strings.Repeat("a", 13)}
	for _, before := range []string{"", "dear\n", text} {
		for _, after := range []string{"", "dear\n", "broken\n", "case"} {
			at := strings.Count(before, "\n")
			ask := func(line string, asked api.Errno) {
				t.Helper()
				if steps, i, e := search.ParseProof(p, before+line+after); steps != nil || i != at || e != asked {
					t.Errorf("%q: %v, %d, %d, not %d, %d", before+line+after, steps, i, e, at, asked)
				}
			}
			for _, line := range form {
				ask(line+"\n", api.ErrForm)
			}
			for _, line := range unknown {
				ask(line+"\n", api.ErrUnknown)
			}
		}
		for _, line := range []string{"d", "dear", "case anna", "case dora", "broken 0", "turned 0", " "} {
			if steps, i, e := search.ParseProof(p, before+line); steps != nil || i != strings.Count(before, "\n") || e != api.ErrForm {
				t.Errorf("%q: %v, %d, %d", before+line, steps, i, e)
			}
		}
	}
}

// P6.7: the problem's error comes first, with line 0.
func TestParseProofErrors(t *testing.T) {
	for _, x := range fails() {
		for _, s := range []string{"", "dear\n", "dear\nclose\n", strings.Repeat("dear\n", api.MaxText)} {
			if steps, line, e := search.ParseProof(x.p, s); steps != nil || line != 0 || e != x.e {
				t.Errorf("%d bytes: %v, %d, %d, not %d", len(s), steps, line, e, x.e)
			}
		}
	}
	// Neither the work of a problem matters nor whether the steps are a proof.
	if steps, line, e := search.ParseProof(feast(64, pair(384).Tables...), "case a\ncase a\n"); !slices.Equal(steps, []api.Step{caseOf(0), caseOf(0)}) || line != 0 || e != api.OK {
		t.Error(steps, line, e)
	}
}

// P6.7: a line says what its step is: what is written is read as it was, and what is read is written as it was.
func TestTextThereAndBack(t *testing.T) {
	r := rand.New(rand.NewSource(8))
	written, read := 0, 0
	for range 2000 {
		p := anyProblem(r, 60, 2)
		var steps []api.Step
		var lines strings.Builder
		for range r.Intn(4) {
			steps = append(steps, anyStep(r))
			number := strconv.Itoa(pick(r, strange()...))
			lines.WriteString(pick(r, "dear", "case "+pick(r, "a", "aa", "-"), "broken "+number, "turned "+number, "turned "+number+" ") + pick(r, "\n", "\n", "\n", "\n", ""))
		}
		if s := search.FormatProof(p, steps); s != "" {
			got, line, e := search.ParseProof(p, s)
			if !slices.Equal(got, steps) || line != 0 || e != api.OK || strings.Count(s, "\n") != len(steps) {
				t.Fatalf("%v: %q: %v, %d, %d", steps, s, got, line, e)
			}
			written++
		}
		if got, _, e := search.ParseProof(p, lines.String()); e == api.OK && len(got) > 0 {
			if s := search.FormatProof(p, got); s != lines.String() {
				t.Fatalf("%q: %v: %q", lines.String(), got, s)
			}
			read++
		}
	}
	if written < 200 || read < 200 {
		t.Errorf("%d are written, %d read", written, read)
	}
}
