package search

import (
	"slices"
	"strconv"
	"strings"

	"trestle/api"
	"trestle/rule"
)

// FormatProof writes a proof.
func FormatProof(p api.Problem, steps []api.Step) string {
	if _, e := rule.Check(p); e != api.OK {
		return ""
	}
	var s strings.Builder
	for _, step := range steps {
		line, ok := writeStep(p, step)
		if !ok || s.Len()+len(line) >= api.MaxText {
			return ""
		}
		s.WriteString(line + "\n")
	}
	return s.String()
}

// ParseProof reads a proof: the proof, or the index of the first wrong line and its error.
func ParseProof(p api.Problem, text string) ([]api.Step, int, api.Errno) {
	if _, e := rule.Check(p); e != api.OK {
		return nil, 0, e
	}
	if len(text) > api.MaxText {
		return nil, 0, api.ErrMany
	}
	var steps []api.Step
	for text != "" {
		line, rest, ended := strings.Cut(text, "\n")
		if !ended {
			return nil, len(steps), api.ErrForm
		}
		step, e := readStep(p, line)
		if e != api.OK {
			return nil, len(steps), e
		}
		steps, text = append(steps, step), rest
	}
	return steps, 0, api.OK
}

// writeStep returns the line of a step, if some line says what the step is.
func writeStep(p api.Problem, step api.Step) (string, bool) {
	number := strconv.Itoa(step.N)
	isNumber := step.N >= 0 && len(number) <= 9
	switch step.Kind {
	case api.Case:
		if step.N < 0 || step.N >= len(p.Guests) {
			return "", false
		}
		return "case " + p.Guests[step.N].Name, true
	case api.Broken:
		return "broken " + number, isNumber
	case api.Dear:
		return "dear", step.N == 0
	case api.Turned:
		return "turned " + number, isNumber
	}
	return "", false
}

// readStep returns the step that a line tells of, or the line's error.
func readStep(p api.Problem, line string) (api.Step, api.Errno) {
	if line == "dear" {
		return api.Step{Kind: api.Dear}, api.OK
	}
	word, rest, _ := strings.Cut(line, " ")
	switch word {
	case "case":
		return readCase(p, rest)
	case "broken":
		return readNumbered(api.Broken, rest)
	case "turned":
		return readNumbered(api.Turned, rest)
	}
	return api.Step{}, api.ErrForm
}

// readCase returns the case that a guest's name tells of, or the error of its line.
func readCase(p api.Problem, name string) (api.Step, api.Errno) {
	if name == "" || strings.Contains(name, " ") {
		return api.Step{}, api.ErrForm
	}
	g := slices.IndexFunc(p.Guests, func(g api.Guest) bool { return g.Name == name })
	if g < 0 {
		return api.Step{}, api.ErrUnknown
	}
	return api.Step{Kind: api.Case, N: g}, api.OK
}

// readNumbered returns the step of a kind whose number is 1 to 9 digits, without leading zeros, or the error of its line.
func readNumbered(kind api.StepKind, number string) (api.Step, api.Errno) {
	n, err := strconv.Atoi(number)
	if err != nil || n < 0 || len(number) > 9 || strconv.Itoa(n) != number {
		return api.Step{}, api.ErrForm
	}
	return api.Step{Kind: kind, N: n}, api.OK
}
