package guest_test

import (
	"math/rand"
	"slices"
	"strings"
	"testing"

	"trestle/api"
	"trestle/guest"
)

// P2.8: texts of rolls, and the rolls that they tell of.
func TestParse(t *testing.T) {
	for _, x := range []struct {
		text string
		r    api.Roll
	}{
		{"", api.Roll{}},
		{"guest a - - 0 0 - -\n", api.Roll{Guests: []api.Guest{{Name: "a"}}}},
		{"guest a - - 0 0 - h\n", api.Roll{Guests: []api.Guest{{Name: "a", Host: true}}}},
		{"guest a - - 0 0 - a\n", api.Roll{Guests: []api.Guest{{Name: "a", Access: true}}}},
		{"guest a duke - 0 0 - -\n", api.Roll{Guests: []api.Guest{{Name: "a", Rank: "duke"}}}},
		{"guest a - spain 0 0 - -\n", api.Roll{Guests: []api.Guest{{Name: "a", Court: "spain"}}}},
		{"guest a - - 7 0 - -\n", api.Roll{Guests: []api.Guest{{Name: "a", Since: 7}}}},
		{"guest a - - 0 2 - -\n", api.Roll{Guests: []api.Guest{{Name: "a", Side: 2}}}},
		{"guest a - - 0 0 fish -\n", api.Roll{Guests: []api.Guest{{Name: "a", Diet: "fish"}}}},
		{"guest anna duchess france 1998 1 - ha french latin\n", api.Roll{Guests: []api.Guest{{Name: "anna", Rank: "duchess", Court: "france", Since: 1998, Side: 1, Host: true, Access: true, Tongues: []string{"french", "latin"}}}}},
		{
			"guest guest h a 9999 2 ha - a b c d\nguest friend - - 0 0 - - h\nguest feud - - 0 0 - -\nguest abcdefghijkl abcdefghijkl abcdefghijkl 10 0 abcdefghijkl -\nfeud feud friend\nfriend feud guest\nfeud friend guest\n",
			api.Roll{
				Guests: []api.Guest{{Name: "guest", Rank: "h", Court: "a", Since: 9999, Side: 2, Diet: "ha", Tongues: []string{"a", "b", "c", "d"}}, {Name: "friend", Tongues: []string{"h"}}, {Name: "feud"}, {Name: "abcdefghijkl", Rank: "abcdefghijkl", Court: "abcdefghijkl", Since: 10, Diet: "abcdefghijkl"}},
				Ties:   []api.Tie{{A: "feud", B: "friend", Kind: api.Feud}, {A: "feud", B: "guest", Kind: api.Friend}, {A: "friend", B: "guest", Kind: api.Feud}},
			},
		},
	} {
		r, line, e := guest.Parse(x.text)
		if line != 0 || e != api.OK || !sameRoll(r, x.r) {
			t.Errorf("Parse(%q) is %v, %d, %d", x.text, r, line, e)
		}
		if text := guest.Format(x.r); text != x.text {
			t.Errorf("Format(%v) is %q", x.r, text)
		}
	}
}

// P2.8: ties may stand between the guests, with either name first; Format writes them in their order.
func TestParseAnyOrder(t *testing.T) {
	text := "guest b - - 0 0 - -\nguest c - - 0 0 - -\nfriend c b\nguest a - - 0 0 - -\nfeud b a\nfriend a c\n"
	want := "guest b - - 0 0 - -\nguest c - - 0 0 - -\nguest a - - 0 0 - -\nfeud a b\nfriend a c\nfriend b c\n"
	r, line, e := guest.Parse(text)
	if line != 0 || e != api.OK || guest.Format(r) != want {
		t.Error(r, line, e)
	}
}

// P2.8: lines that do not have the form of a guest or a tie.
func TestParseForm(t *testing.T) {
	before := "guest a - - 0 0 - -\nguest b - - 0 0 - -\n"
	for _, line := range []string{
		"\n", " \n", "\n\n", "x\n", "-\n", "\x00\n", "guest", "guest\n", "guest c\n", "guest c - - 0 0 -\n", "guest c - - 0 0 - -", "guest c - - 0 0 - - latin",
		"Guest c - - 0 0 - -\n", "guests c - - 0 0 - -\n", "gues c - - 0 0 - -\n", "tie a b\n", "friends a b\n", "FEUD a b\n",
		" guest c - - 0 0 - -\n", "guest c - - 0 0 - - \n", "guest  c - - 0 0 - -\n", "guest c - -  0 0 - -\n", "guest c - - 0 0 - -  latin\n", "guest c - - 0 0 - -\r", "guest c - - 0 0 - -\r\n", "guest\tc - - 0 0 - -\n",
		"guest c - - 00 0 - -\n", "guest c - - 01 0 - -\n", "guest c - - +1 0 - -\n", "guest c - - -1 0 - -\n", "guest c - - -0 0 - -\n", "guest c - - - 0 - -\n", "guest c - - x 0 - -\n", "guest c - - 1_0 0 - -\n", "guest c - - 0x1 0 - -\n", "guest c - - 1.0 0 - -\n",
		"guest c - - 0000000001 0 - -\n", "guest c - - 1000000000 0 - -\n", "guest c - - 99999999999999999999999999 0 - -\n", "guest c - - ٣ 0 - -\n", "guest c - - " + strings.Repeat("1", 60000) + " 0 - -\n",
		"guest c - - 0 01 - -\n", "guest c - - 0 -1 - -\n", "guest c - - 0 - - -\n", "guest c - - 0 1000000000 - -\n", "guest c - - 0 x - -\n",
		"guest c - - 0 0 - ah\n", "guest c - - 0 0 - H\n", "guest c - - 0 0 - hh\n", "guest c - - 0 0 - aa\n", "guest c - - 0 0 - haa\n", "guest c - - 0 0 - --\n", "guest c - - 0 0 - latin\n", "guest c - - 0 0 - 0\n", "guest c - - 0 0 - -h\n",
		"guest A - - 99999 9 - x b a\n", "guest a - - x 0 - -\n",
		"friend\n", "friend a\n", "friend a b c\n", "friend a b ", "friend a b \n", "friend a  b\n", "friend  a b\n", " friend a b\n", "friend a b", "feud\n", "feud b\n", "feud a a a\n", "feud a b -\n", "feud a b", "feud - - - - - - -\n", "friend a b - 0 0 - -\n",
	} {
		for i, text := range []string{line, before + line} {
			if r, at, e := guest.Parse(text); !isEmpty(r) || at != 2*i || e != api.ErrForm {
				t.Errorf("Parse(%.80q) is %v, %d, %d", text, r, at, e)
			}
		}
	}
}

// P2.8: the errors of a line in their order, and the first line with an error.
func TestParseErrors(t *testing.T) {
	two := "guest a - - 0 0 - -\nguest b - - 0 0 - -\n"
	for _, x := range []struct {
		text string
		line int
		e    api.Errno
	}{
		{"guest A - - 10000 3 - - b a\n", 0, api.ErrName},
		{"guest - - - 0 0 - -\n", 0, api.ErrName},
		{"guest abcdefghijklm - - 0 0 - -\n", 0, api.ErrName},
		{"guest a\t - - 0 0 - -\n", 0, api.ErrName},
		{"guest a -- - 0 0 - -\n", 0, api.ErrName},
		{"guest a - 0 0 0 - -\n", 0, api.ErrName},
		{"guest a - - 10000 3 x- - b a\n", 0, api.ErrName},
		{two + "guest a - - 10000 3 - - b a\n", 2, api.ErrSince},
		{two + "guest a - - 999999999 0 - -\n", 2, api.ErrSince},
		{two + "guest a - - 9999 3 - - b a\n", 2, api.ErrSide},
		{two + "guest a - - 9999 999999999 - -\n", 2, api.ErrSide},
		{two + "guest a - - 9999 2 - - b a\n", 2, api.ErrTongue},
		{two + "guest c - - 0 0 - - a b c d e\n", 2, api.ErrTongue},
		{two + "guest c - - 0 0 - - -\n", 2, api.ErrTongue},
		{two + "guest c - - 0 0 - - latin latin\n", 2, api.ErrTongue},
		{two + "guest c - - 0 0 - - 7\n", 2, api.ErrTongue},
		{two + "guest c - - 0 0 - - - h\n", 2, api.ErrTongue},
		{two + "guest b duke - 0 0 - -\n", 2, api.ErrTwice},
		{two + "friend a a\n", 2, api.ErrTie},
		{two + "friend c c\n", 2, api.ErrTie},
		{two + "feud - -\n", 2, api.ErrTie},
		{two + "feud a c\n", 2, api.ErrUnknown},
		{two + "friend c a\n", 2, api.ErrUnknown},
		{two + "friend a -\n", 2, api.ErrUnknown},
		{two + "friend a B\n", 2, api.ErrUnknown},
		{"friend a b\n" + two, 0, api.ErrUnknown},
		{two + "friend a b\nfriend a b\n", 3, api.ErrTwice},
		{two + "friend a b\nfriend b a\n", 3, api.ErrTwice},
		{two + "friend a b\nfeud a b\n", 3, api.ErrTwice},
		{two + "friend b a\nfeud a b\nx\n", 3, api.ErrTwice},
		{two + "x\nfriend a a\n", 2, api.ErrForm},
		{two + "friend a a\nx\n", 2, api.ErrTie},
		{"guest a - - 0 0 - -\n" + two, 1, api.ErrTwice},
	} {
		if r, line, e := guest.Parse(x.text); !isEmpty(r) || line != x.line || e != x.e {
			t.Errorf("Parse(%q) is %v, %d, %d, not %d, %d", x.text, r, line, e, x.line, x.e)
		}
	}
}

// P2.8: a text has at most MaxGuests guests and MaxTies ties.
func TestParseMany(t *testing.T) {
	full := api.Roll{Guests: crowd(64), Ties: allTies(crowd(64), 256)}
	text := guest.Format(full)
	for _, x := range []struct {
		more string
		e    api.Errno
	}{
		{"guest z - - 0 0 - -\n", api.ErrMany}, {"guest a - - 0 0 - -\n", api.ErrTwice}, {"guest a - - 0 9 - -\n", api.ErrSide}, {"guest z - - 00 0 - -\n", api.ErrForm},
		{"feud bb c\n", api.ErrMany}, {"feud a aa\n", api.ErrTwice}, {"feud a z\n", api.ErrUnknown}, {"feud a a\n", api.ErrTie}, {"feud a\n", api.ErrForm},
	} {
		if r, line, e := guest.Parse(text + x.more); !isEmpty(r) || line != 64+256 || e != x.e {
			t.Errorf("%q: %d, %d, not %d", x.more, line, e, x.e)
		}
	}
	if r, line, e := guest.Parse(text); !sameRoll(r, full) || line != 0 || e != api.OK {
		t.Error("a full roll", line, e)
	}
}

// P2.8: a text has at most MaxText bytes, whatever it says.
func TestParseLength(t *testing.T) {
	good := "guest a - - 0 0 - -\n"
	for _, x := range []struct {
		text string
		line int
		e    api.Errno
	}{
		{good + strings.Repeat("\n", api.MaxText-len(good)), 1, api.ErrForm},
		{good + strings.Repeat("\n", api.MaxText-len(good)+1), 0, api.ErrMany},
		{"guest b" + good[7:len(good)-1] + strings.Repeat(" a", (api.MaxText-len(good))/2) + "\n", 0, api.ErrTongue},
		{strings.Repeat("x", api.MaxText), 0, api.ErrForm},
		{strings.Repeat("x", api.MaxText+1), 0, api.ErrMany},
		{strings.Repeat(" ", 1<<20), 0, api.ErrMany},
	} {
		if r, line, e := guest.Parse(x.text); !isEmpty(r) || line != x.line || e != x.e {
			t.Errorf("%d bytes: %d, %d, not %d, %d", len(x.text), line, e, x.line, x.e)
		}
	}
}

// P2.8: a roll that is not valid has no text.
func TestFormatWrong(t *testing.T) {
	two := crowd(2)
	for i, r := range []api.Roll{
		{Guests: []api.Guest{{}}},
		{Guests: []api.Guest{{Name: "a"}, {Name: "a"}}},
		{Guests: []api.Guest{{Name: "a", Rank: "-"}}},
		{Guests: []api.Guest{{Name: "a", Since: 10000}}},
		{Guests: []api.Guest{{Name: "a", Side: -1}}},
		{Guests: []api.Guest{{Name: "a", Tongues: []string{"b", "a"}}}},
		{Guests: crowd(65)},
		{Guests: two, Ties: []api.Tie{{A: "aa", B: "a", Kind: api.Feud}}},
		{Guests: two, Ties: []api.Tie{{A: "a", B: "aa"}}},
		{Guests: two, Ties: []api.Tie{{A: "a", B: "b", Kind: api.Friend}}},
		{Guests: crowd(64), Ties: allTies(crowd(64), 257)},
	} {
		if s := guest.Format(r); s != "" {
			t.Errorf("%d: %.60q", i, s)
		}
	}
	if guest.Format(api.Roll{}) != "" {
		t.Error("the text of nobody")
	}
}

// P2.8: a text with some bytes changed either has an error, or says what its Format says.
func TestChangedTexts(t *testing.T) {
	text := "guest a duke - 1998 1 - ha french latin\nguest b - spain 0 2 fish -\nguest c - - 0 0 - h welsh\nfriend a b\nfeud a c\n"
	letters := []byte(" \n-0129abch\x00\xff")
	r := rand.New(rand.NewSource(6))
	for range 30000 {
		b := []byte(text)
		for range 1 + r.Intn(3) {
			b[r.Intn(len(b))] = letters[r.Intn(len(letters))]
		}
		if r.Intn(4) == 0 {
			b = b[:r.Intn(len(b))]
		}
		got, line, e := guest.Parse(string(b))
		switch {
		case e != api.OK && (!isEmpty(got) || line > strings.Count(string(b), "\n")):
			t.Fatalf("%q gives %v, %d, %d", b, got, line, e)
		case e == api.OK && (line != 0 || !slices.Equal(sortedWords(guest.Format(got)), sortedWords(string(b)))):
			t.Fatalf("%q gives %q, %d", b, guest.Format(got), line)
		}
	}
}

// sortedWords returns the words and ends of lines of a text in increasing order, as the ties of a text may stand in any order.
func sortedWords(text string) []string {
	words := strings.Split(strings.ReplaceAll(text, "\n", " \n "), " ")
	slices.Sort(words)
	return words
}
