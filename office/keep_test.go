package office_test

import (
	"slices"
	"strconv"
	"strings"
	"testing"

	"trestle/api"
	"trestle/hall"
	"trestle/office"
	"trestle/plan"
)

// P12.1: table.
func TestTable(t *testing.T) {
	o := open(t, `
		table r round 4 0 0 0 => tables 1
		table w long 3 1 7 1000 0 6 => tables 2
		table u horseshoe 2 1 0 0 => tables 3
		table r row 1 0 0 0 => error 5
		table x oval 1 0 0 0 => error 3
		table R row 1 0 0 0 => error 4
		table - row 1 0 0 0 => error 4
		table abcdefghijklm row 1 0 0 0 => error 4
		table x round 4 1 0 0 => error 10
		table x row 25 0 0 0 => error 10
		table x row 4 0 0 0 1 0 => error 11
		table x row 4 0 0 0 4 => error 11
		table x row 4 0 1001 0 => error 2
		table r row 4 0 0 1001 => error 2`)
	want, _, _ := hall.Parse("table r round 4 0 0 0\ntable w long 3 1 7 1000 0 6\ntable u horseshoe 2 1 0 0\n")
	if got := o.Problem().Tables; hall.Format(got) != hall.Format(want) || !slices.Equal(got[1].Open, []int{0, 6}) {
		t.Error(got)
	}
	// A table may be added behind a plan: nobody sits elsewhere then.
	tell(t, o, `
		guest ann - - 0 0 - - => guests 1
		begin => ok
		place ann u 3 => ok
		table v row 2 0 0 0 => tables 4
		show => ann u 3
		why ann => r 0 same / r 1 same / r 2 same / r 3 same / w 0 same / w 1 same / w 2 same / w 3 same / w 4 same / w 5 same / w 6 same / u 0 same / u 1 same / u 2 same / v 0 same / v 1 same`)
	for i := range 12 {
		tell(t, o, "table z"+string(rune('a'+i))+" row 1 0 0 0 => tables "+strconv.Itoa(5+i))
	}
	tell(t, o, `
		table zz row 1 0 0 0 => error 7
		table r row 1 0 0 0 => error 5
		table zz row 0 0 0 0 => error 10
		state => tables 16 guests 1 ties 0 clauses 0 rules 0 seated 1`)
}

// P12.1: guest.
func TestGuest(t *testing.T) {
	o := open(t, `
		guest ann - - 0 0 - - => error 45
		guest Ann - - 0 0 - - => error 4
		table w row 3 0 0 0 => tables 1
		guest ann - - 0 0 - - => guests 1
		guest bob duke spain 2001 2 egg ha latin welsh => guests 2
		guest Cid - - 0 0 - - => error 4
		guest cid Duke - 0 0 - - => error 4
		guest cid - - 10000 0 - - => error 21
		guest cid - - 0 3 - - => error 20
		guest cid - - 0 0 - - welsh latin => error 22
		guest ann - - 0 0 - - => error 5
		feud bob ann => ties 1
		guest cid - - 0 0 - - => guests 3
		guest dee - - 0 0 - - => error 45
		guest cid - - 0 0 - - => error 5
		guest dee - - 0 0 - - welsh latin => error 22
		state => tables 1 guests 3 ties 1 clauses 0 rules 0 no plan`)
	// Who is added behind a plan is not seated.
	o = open(t, `
		table w row 3 0 0 0 => tables 1
		begin => ok
		guest ann - - 0 0 - - => guests 1
		place ann w 1 => ok
		guest bob - - 0 0 - - => guests 2
		guest cid - - 0 0 - - => guests 3
		show => ann w 1 / bob - / cid -
		place cid w 0 => ok
		state => tables 1 guests 3 ties 0 clauses 0 rules 0 seated 2`)
	if x, ok := o.Plan(); !ok || !slices.Equal(x, []int{1, -1, 0}) {
		t.Error(x, ok)
	}
}

// P12.1: guest, with as many guests as there may be: ErrMany comes before ErrRoom.
func TestManyGuests(t *testing.T) {
	o := open(t, `
		table a row 24 0 0 0 => tables 1
		table b row 24 0 0 0 => tables 2
		table c row 16 0 0 0 => tables 3`)
	for i := range 64 {
		tell(t, o, "guest g"+strings.Repeat("x", i%8)+string(rune('a'+i/8))+" - - 0 0 - - => guests "+strconv.Itoa(1+i))
	}
	tell(t, o, `
		guest ann - - 0 0 - - => error 7
		guest ga - - 0 0 - - => error 5
		guest Ann - - 0 0 - - => error 4
		table d row 1 0 0 0 => tables 4
		guest ann - - 0 0 - - => error 7
		begin => ok
		late guest ann - - 0 0 - - => error 7`)
}

// P12.1: friend and feud.
func TestTies(t *testing.T) {
	o := dinner(t)
	tell(t, o, `
		friend ann bob => ties 3
		feud cid bob => ties 4
		friend cid cid => error 23
		feud ann ann => error 23
		friend zoe zoe => error 23
		friend ann zoe => error 6
		feud zoe ann => error 6
		feud bob ann => error 5
		friend ann bob => error 5
		friend cid ann => error 5
		feud Ann bob => error 6`)
	if want := "friend ann bob\nfeud ann cid\nfeud bob cid\nfriend bob dee\n"; !strings.Contains(o.Text(), "\n"+want+"moves") {
		t.Error(o.Text())
	}
	o = open(t, "table a row 24 0 0 0 => tables 1")
	for i := range 24 {
		tell(t, o, "guest g"+string(rune('a'+i))+" - - 0 0 - - => guests "+strconv.Itoa(1+i))
	}
	n := 0
	for i := range 24 {
		for k := range i {
			if n++; n <= 256 {
				tell(t, o, "feud g"+string(rune('a'+k))+" g"+string(rune('a'+i))+" => ties "+strconv.Itoa(n))
			}
		}
	}
	tell(t, o, `
		friend gw gx => error 7
		friend gx gx => error 23
		friend gx zoe => error 6
		feud ga gb => error 5
		begin => ok
		quarrel gw gx => error 7`)
}

// P12.1: clause.
func TestClause(t *testing.T) {
	o := dinner(t)
	tell(t, o, `
		clause among count elder => error 31
		clause rank count duke => clauses 1
		clause among count elder => clauses 2
		clause among king elder => error 31
		clause side 3 first => error 30
		clause lot 64 => error 30
		clause rank duke Count => error 4
		clause tongue last latin latin => error 5
		clause tongue last latin => clauses 3
		state => tables 2 guests 4 ties 2 clauses 3 rules 0 no plan`)
	if got := o.Problem().Class; !slices.Equal(got, []int{2, 1, 0, 3}) {
		t.Error(got)
	}
	for i := range 29 {
		tell(t, o, "clause lot "+strconv.Itoa(i)+" => clauses "+strconv.Itoa(4+i))
	}
	tell(t, o, `
		clause name => error 7
		clause lot 64 => error 30
		clause among king elder => error 31`)
}

// P12.1: the classes are those of the clauses, also of guests who come, leave, or change their places.
func TestClasses(t *testing.T) {
	o := dinner(t)
	class := func(want ...int) {
		t.Helper()
		if got := o.Problem().Class; !slices.Equal(got, want) {
			t.Errorf("%v, not %v", got, want)
		}
	}
	class()
	tell(t, o, "clause host first => clauses 1")
	class(0, 1, 1, 0)
	// The keys of this lot are 20, 61, 38, 15, 56, 33 for the first six places.
	tell(t, o, "clause lot 20 => clauses 2")
	class(1, 3, 2, 0)
	tell(t, o, `
		guest eve - - 0 0 - - => guests 5
		solve => cost 0`)
	class(1, 4, 2, 0, 3)
	tell(t, o, "late guest fay - - 0 0 - h => moved 0 cost 0")
	class(1, 5, 3, 0, 4, 2)
	tell(t, o, "cancel bob => moved 0 cost 0")
	class(0, 4, 1, 3, 2)
	tell(t, o, `
		cancel dee => moved 0 cost 0
		cancel cid => moved 0 cost 0
		cancel fay => moved 0 cost 0
		cancel eve => moved 0 cost 0`)
	class(0)
	tell(t, o, "cancel ann => moved 0 cost 0")
	class()
	tell(t, o, "late guest gus - - 0 0 - - => moved 0 cost 0")
	class(0)
}

// P12.1: what is repaired is the problem with the classes of the clauses behind the change.
func TestClassesBehindChange(t *testing.T) {
	// By name adam goes before ann, and takes the seat of honour, seat 1: ann would have to move for it, though.
	const hall = `
		table w row 2 0 0 0 => tables 1
		guest ann - - 0 0 - - => guests 1
		clause name => clauses 1
		begin => ok`
	o := open(t, hall+`
		rule weigh 5 honour - => rules 1
		place ann w 1 => ok
		late guest adam - - 0 0 - - => moved 0 cost 5
		prove => cheaper 0`)
	tell(t, o, "order => adam ann")
	o = open(t, hall+`
		rule hard honour - => rules 1
		place ann w 1 => ok
		late guest adam - - 0 0 - - => moved 1 cost 0
		show => adam w 1 / ann w 0`)
	o = open(t, hall+`
		rule hard honour - => rules 1
		place ann w 1 => ok
		moves 0 => ok
		late guest adam - - 0 0 - - => error 9
		late guest bob - - 0 0 - - => moved 0 cost 0
		show => ann w 1 / bob w 0`)
	// The keys of this lot are 20, 61 and 38 for the first three places: bob goes before ann as long as eve stands before them.
	open(t, `
		table w row 2 0 0 0 => tables 1
		table k row 1 0 0 0 => tables 2
		guest eve - - 0 0 - - => guests 1
		guest ann - - 0 0 - - => guests 2
		guest bob - - 0 0 - - => guests 3
		clause lot 20 => clauses 1
		order => eve bob ann
		rule hard honour w => rules 1
		begin => ok
		place eve k 0 => ok
		place ann w 0 => ok
		place bob w 1 => ok
		mend => moved 0 cost 0
		cancel eve => moved 1 cost 0
		order => ann bob
		show => ann w 0 / bob k 0`)
}

// P12.1: rule.
func TestRule(t *testing.T) {
	o := dinner(t)
	tell(t, o, `
		rule hard beside ann bob => rules 1
		rule weigh 1000 fill - 24 => rules 2
		rule weigh 0 mix - => error 41
		rule weigh 1001 mix - => error 41
		rule hard at ann R => error 4
		rule hard at ann - => error 4
		rule weigh 0 at ann - => error 41
		rule hard at ann x => error 6
		rule hard at zoe r => error 6
		rule hard at zoe x => error 6
		rule hard beside ann ann => error 5
		rule hard beside ann zoe => error 6
		rule hard seat ann w 2 => error 42
		rule hard seat ann r 3 => rules 3
		rule hard near ann bob 0 => error 42
		rule hard limit x 25 => error 6
		rule hard limit r 25 => error 42
		rule hard kitchen - r => error 4
		rule weigh 7 reach - => rules 4`)
	for i := range 60 {
		tell(t, o, "rule weigh "+strconv.Itoa(1+i)+" kitchen egg w => rules "+strconv.Itoa(5+i))
	}
	tell(t, o, `
		rule hard peace - => error 7
		rule hard at ann x => error 6
		rule hard at ann R => error 4
		begin => ok
		demand hard peace - => error 7
		close r 4 => error 7
		quarrel ann bob => error 7
		drop 9 => rules 63
		rule hard peace - => rules 64`)
}

// P12.1: drop.
func TestDrop(t *testing.T) {
	o := dinner(t)
	tell(t, o, `
		drop 0 => error 6
		rule hard peace - => rules 1
		rule weigh 2 mix - => rules 2
		rule weigh 3 mix r => rules 3
		rule hard mix w => rules 4
		drop 4 => error 6
		drop 999999999 => error 6
		drop 1 => rules 3`)
	if want := "rule hard peace -\nrule weigh 3 mix r\nrule hard mix w\n"; !strings.Contains(o.Text(), "\n"+want+"moves") {
		t.Error(o.Text())
	}
	tell(t, o, `
		drop 2 => rules 2
		drop 0 => rules 1
		drop 1 => error 6
		drop 0 => rules 0
		drop 0 => error 6`)
}

// P12.1: moves, begin and clear.
func TestSmallLines(t *testing.T) {
	o := dinner(t)
	tell(t, o, `
		moves 64 => ok
		moves 65 => error 42
		moves 999999999 => error 42
		moves 0 => ok
		clear => error 121
		begin => ok
		show => ann - / bob - / cid - / dee -
		place ann r 0 => ok
		begin => ok
		show => ann - / bob - / cid - / dee -
		clear => ok
		clear => error 121
		show => error 121
		state => tables 2 guests 4 ties 2 clauses 0 rules 0 no plan`)
	if got := o.Log(); !strings.HasSuffix(got, "feud ann cid\nmoves 64\nmoves 0\nbegin\nplace ann r 0\nbegin\nclear\n") {
		t.Error(got)
	}
	tell(t, office.New(), `
		begin => ok
		show =>
		state => tables 0 guests 0 ties 0 clauses 0 rules 0 seated 0
		mend => moved 0 cost 0
		tidy => ok`)
}

// P12.1: place, stand and swap.
func TestPlace(t *testing.T) {
	tell(t, dinner(t), `
		begin => ok
		place ann r 3 => ok
		place ann r 3 => ok
		place bob r 3 => error 51
		place bob w 1 => ok
		place cid r 0 => ok
		place dee w 2 => error 42
		place dee r 4 => error 42
		place dee r 999999999 => error 42
		place dee x 9 => error 6
		place zoe r 9 => error 6
		place zoe r 3 => error 6
		show => ann r 3 / bob w 1 / cid r 0 / dee -
		place ann w 0 => ok
		place bob r 3 => ok
		show => ann w 0 / bob r 3 / cid r 0 / dee -
		swap ann dee => ok
		show => ann - / bob r 3 / cid r 0 / dee w 0
		swap ann zoe => error 6
		swap zoe ann => error 6
		swap bob cid => ok
		swap cid cid => ok
		show => ann - / bob r 0 / cid r 3 / dee w 0
		stand cid => ok
		stand cid => ok
		stand zoe => error 6
		swap ann cid => ok
		show => ann - / bob r 0 / cid - / dee w 0
		place dee r 3 => ok
		state => tables 2 guests 4 ties 2 clauses 0 rules 0 seated 2`)
}

// P12.1: turn and tidy.
func TestTurn(t *testing.T) {
	o := dinner(t)
	tell(t, o, `
		begin => ok
		place ann r 2 => ok
		place bob r 0 => ok
		place cid w 1 => ok
		turn r 1 => ok
		show => ann r 0 / bob r 2 / cid w 1 / dee -
		turn r 0 => ok
		turn r 2 => error 2
		turn w 2 => error 2
		turn x 0 => error 6
		turn x 9 => error 6
		turn ann 0 => error 6
		turn w 1 => ok
		show => ann r 0 / bob r 2 / cid w 0 / dee -
		turn w 1 => ok
		tidy => ok
		show => ann r 2 / bob r 0 / cid w 0 / dee -
		tidy => ok
		show => ann r 2 / bob r 0 / cid w 0 / dee -
		rule weigh 1 seat ann r 2 => rules 1
		turn r 1 => error 2`)
	// Only seat 1 of r is open: its group has two elements.
	p := o.Problem()
	p.Rules = nil
	if n := len(plan.Group(p, 0)); n != 2 {
		t.Error(n)
	}
	tell(t, open(t, `
		table r round 4 0 0 0 => tables 1
		guest ann - - 0 0 - - => guests 1
		begin => ok
		place ann r 3 => ok`), `
		rule weigh 1 seat ann r 2 => rules 1
		tidy => ok
		show => ann r 1`)
}

// P12.1: solve and build.
func TestSolve(t *testing.T) {
	o := dinner(t)
	tell(t, o, `
		rule hard peace - => rules 1
		rule weigh 4 beside ann bob => rules 2
		rule weigh 3 beside ann cid => rules 3
		solve => cost 3
		show => ann r 2 / bob r 1 / cid w 0 / dee r 0
		build 0 => cost 7 bound 3
		show => ann w 0 / bob r 1 / cid r 2 / dee r 0
		prove => cheaper 3
		clear => ok
		build 5 => cost 3 bound 3
		show => ann w 1 / bob w 0 / cid r 1 / dee r 0
		prove => best
		rule hard beside ann cid => rules 4
		solve => error 9
		build 5 => error 9
		show => ann w 1 / bob w 0 / cid r 1 / dee r 0
		drop 2 => rules 3
		drop 1 => rules 2
		build 5 => error 82
		build 999999999 => error 82
		show => ann w 1 / bob w 0 / cid r 1 / dee r 0`)
	tell(t, open(t, `
		table w row 4 1 0 0 => tables 1
		guest ann - - 0 0 - - => guests 1
		guest bob - - 0 0 - - => guests 2
		rule hard beside ann bob => rules 1
		build 1 => error 82`), `
		rule weigh 1 across ann bob => rules 2
		build 1 => error 9
		solve => error 9
		state => tables 1 guests 2 ties 0 clauses 0 rules 2 no plan`)
	// 7 guests have 181440 plans on 9 seats; 43 guests times 24 seats are more than 1024.
	o = open(t, "table w row 9 0 0 0 => tables 1")
	for i := range 7 {
		tell(t, o, "guest g"+string(rune('a'+i))+" - - 0 0 - - => guests "+strconv.Itoa(1+i))
	}
	tell(t, o, `
		solve => error 8
		build 1 => cost 0 bound 0
		table x row 24 0 0 0 => tables 2
		table y row 24 0 0 0 => tables 3`)
	for i := range 20 {
		tell(t, o, "guest h"+string(rune('a'+i))+" - - 0 0 - - => guests "+strconv.Itoa(8+i))
	}
	tell(t, o, "build 1 => error 8")
}

// P12.1: mend.
func TestMend(t *testing.T) {
	o := dinner(t)
	tell(t, o, `
		rule hard peace - => rules 1
		rule weigh 4 beside ann bob => rules 2
		begin => ok
		mend => moved 0 cost 0
		show => ann r 2 / bob r 1 / cid w 0 / dee r 0
		swap bob cid => ok
		moves 0 => ok
		mend => error 9
		show => ann r 2 / bob w 0 / cid r 1 / dee r 0
		moves 1 => ok
		mend => moved 1 cost 0
		show => ann w 1 / bob w 0 / cid r 1 / dee r 0
		mend => moved 0 cost 0`)
	// If all four may move, there are 30 times 29 times 28 times 27 ways to seat them again, and more.
	tell(t, o, `
		moves 64 => ok
		table k row 24 0 0 0 => tables 3
		mend => error 8
		moves 1 => ok
		mend => moved 0 cost 0`)
}

// P12.1: late.
func TestLate(t *testing.T) {
	o := dinner(t)
	tell(t, o, `
		rule hard peace - => rules 1
		solve => cost 0
		show => ann w 0 / bob r 1 / cid r 2 / dee r 0
		late guest Eve - - 0 0 - - => error 4
		late guest eve - - 10000 0 - - => error 21
		late guest eve - - 0 3 - - => error 20
		late guest eve - - 0 0 - - welsh latin => error 22
		late guest bob - - 0 0 - - => error 5
		late guest eve - - 0 0 - - => moved 0 cost 0
		show => ann w 0 / bob r 1 / cid r 2 / dee r 0 / eve r 3
		late guest fay - - 0 0 - - => moved 0 cost 0
		late guest gus - - 0 0 - - => error 45
		late guest fay - - 0 0 - - => error 5
		stand eve => ok
		stand ann => ok
		moves 0 => ok
		cancel bob => moved 0 cost 0
		show => ann w 0 / cid r 2 / dee r 0 / eve r 1 / fay w 1
		rule hard near cid fay 1 => rules 2
		late guest gus - - 0 0 - - => error 9
		moves 1 => ok
		late guest gus - - 0 0 - - => moved 1 cost 0
		show => ann w 0 / cid r 2 / dee r 0 / eve r 1 / fay r 3 / gus w 1
		state => tables 2 guests 6 ties 1 clauses 0 rules 2 seated 6
		table k row 24 0 0 0 => tables 3
		moves 2 => ok
		late guest hal - - 0 0 - - => error 8`)
}

// P12.1: cancel, quarrel, close and demand.
func TestChanges(t *testing.T) {
	o := dinner(t)
	tell(t, o, `
		rule hard beside bob ann => rules 1
		rule weigh 2 reach bob => rules 2
		rule weigh 2 kitchen bob w => rules 3
		solve => cost 0
		cancel Bob => error 4
		cancel - => error 4
		cancel zoe => error 6
		cancel bob => moved 0 cost 0
		state => tables 2 guests 3 ties 1 clauses 0 rules 1 seated 3
		quarrel dee Ann => error 4
		quarrel dee zoe => error 6
		quarrel zoe dee => error 6
		quarrel dee dee => error 5
		quarrel dee ann => moved 1 cost 0
		close R 1 => error 4
		close x 1 => error 6
		close x 25 => error 6
		close r 25 => error 42
		close r 1 => moved 1 cost 0
		demand weigh 0 mix - => error 41
		demand hard at ann R => error 4
		demand hard at ann x => error 6
		demand hard seat ann w 2 => error 42
		demand weigh 6 at ann r => moved 0 cost 6`)
	text := o.Text()
	if want := "feud ann cid\nfeud ann dee\nrule weigh 2 kitchen bob w\nrule hard apart dee ann 2\nrule hard limit r 1\nrule weigh 6 at ann r\nmoves 8\n"; !strings.Contains(text, "\n"+want) {
		t.Error(text)
	}
	tell(t, o, `
		demand hard beside ann dee => error 9
		close r 0 => error 9
		moves 0 => ok
		quarrel cid ann => error 9`)
	if got := o.Text(); got != strings.Replace(text, "moves 8", "moves 0", 1) {
		t.Errorf("%q", got)
	}
	tell(t, o, `
		table k row 24 0 0 0 => tables 3
		moves 3 => ok
		quarrel cid dee => error 8
		close r 0 => error 8
		demand hard peace - => error 8`)
}

// P12.1: a line with more bytes than a text may have is what the layer says of it.
func TestLongLines(t *testing.T) {
	o := dinner(t)
	tell(t, o, `
		clause rank duke => clauses 1
		begin => ok`)
	text := o.Text()
	size := func(prefix string) int { // how many bytes of the text are of the lines that begin so
		n := 0
		for line := range strings.Lines(text) {
			if strings.HasPrefix(line, prefix) {
				n += len(line)
			}
		}
		return n
	}
	long := func(n int) string { return strings.Repeat("x", n) }
	roll := size("guest ") + size("f")
	for _, x := range []struct {
		line  string
		there int // bytes that are read before the line
		less  int // bytes of the line that are not read
		e     api.Errno
	}{
		{"table ", size("table "), 0, api.ErrForm},
		{"guest ", roll, 0, api.ErrForm},
		{"friend ann ", roll, 0, api.ErrUnknown},
		{"feud ann ", roll, 0, api.ErrUnknown},
		{"clause rank duke ", len("rank duke\n"), len("clause "), api.ErrName},
		{"rule hard at ann ", 0, len("rule "), api.ErrName},
		{"late guest ", 0, len("late "), api.ErrForm},
		{"cancel ", 0, 0, api.ErrName},
		{"quarrel ann ", 0, 0, api.ErrName},
		{"demand hard at ann ", 0, 0, api.ErrName},
	} {
		n := api.MaxText - x.there + x.less - len(x.line) - 1
		if _, e := o.Do(x.line + long(n)); e != x.e {
			t.Errorf("%s..: %d, not %d", x.line, e, x.e)
		}
		if _, e := o.Do(x.line + long(n+1)); e != api.ErrMany {
			t.Errorf("%s.., with a byte more: %d", x.line, e)
		}
	}
	if answer, e := o.Do("late x" + long(api.MaxText)); answer != "" || e != api.ErrForm {
		t.Error(answer, e)
	}
	for _, line := range []string{"place ann ", "chain ann ", "swap ann "} {
		if _, e := o.Do(line + long(3*api.MaxText)); e == api.OK || e == api.ErrMany {
			t.Error(line, e)
		}
	}
	if o.Text() != text {
		t.Error(o.Text())
	}
}
