package office_test

import (
	"strconv"
	"strings"
	"testing"

	"trestle/api"
	"trestle/office"
)

// DOC.md, Ten examples of the whole: each begins with a new office, or with the lines of the one before.
func TestTenExamples(t *testing.T) {
	const two = `
		table r round 4 0 0 0 => tables 1
		guest ann - - 0 0 - - => guests 1
		guest bob - - 0 0 - - => guests 2
		count => plans 12 classes 2`
	const across = two + `
		rule hard across ann bob => rules 1
		count => plans 4 classes 1
		solve => cost 0
		show => ann r 0 / bob r 2`
	open(t, two)
	open(t, across)
	open(t, across+`
		rule hard beside ann bob => rules 2
		solve => error 9
		core => core 0 1
		drop 0 => rules 1
		solve => cost 0
		show => ann r 0 / bob r 1`)
	open(t, `
		table w row 3 0 0 0 => tables 1
		guest ann duke - 0 0 - - => guests 1
		guest bob count - 0 0 - - => guests 2
		clause rank duke count => clauses 1
		order => ann bob
		rule weigh 1 honour - => rules 1
		begin => ok
		place bob w 1 => ok
		place ann w 0 => ok
		cost => cost 1
		prove => cheaper 0
		swap ann bob => ok
		prove => best`)
	open(t, "guest ann - - 0 0 - - => error 45")
	open(t, `
		table w row 2 0 0 0 => tables 1
		guest ann - - 0 0 - - latin => guests 1
		guest bob - - 0 0 - - latin welsh => guests 2
		chain ann bob => ann bob
		feud bob ann => ties 1
		camps => camps 0 1
		circles => ann / bob
		rule hard peace - => rules 1
		core => core 0`)
	open(t, `
		table w row 2 1 0 0 => tables 1
		guest ann - - 0 0 - - => guests 1
		guest bob - - 0 0 - - => guests 2
		feud ann bob => ties 1
		rule hard peace - => rules 1
		solve => cost 0`)
	open(t, `
		table r round 4 0 0 0 => tables 1
		table w row 1 0 0 0 => tables 2
		guest ann - - 0 0 - - => guests 1
		guest bob - - 0 0 - - => guests 2
		solve => cost 0
		quarrel ann bob => moved 1 cost 0
		show => ann r 0 / bob w 0
		late guest cid - - 0 0 - - => moved 0 cost 0
		close r 1 => error 9
		state => tables 2 guests 3 ties 1 clauses 0 rules 1 seated 3`)
	open(t, `
		table r round 4 0 10 0 => tables 1
		guest ann - - 0 0 vegan - => guests 1
		begin => ok
		dishes =>
		place ann r 3 => ok
		dishes => r vegan 1
		route => length 20 r
		trips 1 => trip 1 20 r
		card ann => guest ann / table r 3 / diet vegan
		why ann => r 0 same / r 1 same / r 2 same`)
	o := open(t, `
		table r round 4 0 0 0 => tables 1
		guest ann - - 0 0 - - => guests 1
		guest bob - - 0 0 - - => guests 2
		guest cid - - 0 0 - - => guests 3
		guest dee - - 0 0 - - => guests 4
		evenings 3 2 2 => 0 1 / 2 3 // 0 2 / 1 3 // 0 3 / 1 2
		moves 5 => ok`)
	if got := o.Log(); got != "table r round 4 0 0 0\nguest ann - - 0 0 - -\nguest bob - - 0 0 - -\nguest cid - - 0 0 - -\nguest dee - - 0 0 - -\nmoves 5\n" {
		t.Errorf("%q", got)
	}
}

// P12.1: count, core, order and the others that need no plan, in an office with nothing.
func TestEmptyOffice(t *testing.T) {
	open(t, `
		count => plans 1 classes 1
		core => error 70
		order =>
		classes =>
		circles =>
		camps => camps
		chain ann bob => error 9
		chain ann ann => error 9
		evenings 1 1 => error 90
		evenings 1 0 => error 90
		state => tables 0 guests 0 ties 0 clauses 0 rules 0 no plan
		solve => cost 0
		show =>
		cost => cost 0
		prove => best
		dishes =>
		route => length 0
		trips 1 =>
		trips 0 => error 2
		why ann => error 6
		card ann => error 6
		chart r => error 6
		rule weigh 3 fill - 2 => rules 1
		cost => cost 0
		build 0 => cost 0 bound 0
		state => tables 0 guests 0 ties 0 clauses 0 rules 1 seated 0`)
}

// P12.1: count and core.
func TestCount(t *testing.T) {
	o := dinner(t)
	tell(t, o, `
		count => plans 360 classes 102
		core => error 70
		rule hard together ann cid => rules 1
		rule weigh 2 mix - => rules 2
		rule hard peace - => rules 3
		rule hard at bob w => rules 4
		count => plans 0 classes 0
		core => core 0 2
		rule hard beside ann ann => error 5
		drop 0 => rules 3
		core => error 70
		count => plans 48 classes 14`)
	for i := range 9 {
		tell(t, o, "rule hard limit r 4 => rules "+strconv.Itoa(4+i))
	}
	tell(t, o, `
		count => plans 48 classes 14
		core => error 8
		drop 1 => rules 11
		core => error 70
		table k row 8 0 0 0 => tables 3
		count => error 8
		core => error 8
		solve => error 8`)
}

// P12.1: cost.
func TestCost(t *testing.T) {
	tell(t, dinner(t), `
		rule weigh 5 at ann w => rules 1
		rule hard peace - => rules 2
		rule weigh 2 mix - => rules 3
		rule hard at bob w => rules 4
		rule weigh 3 host - => rules 5
		cost => error 121
		begin => ok
		cost => cost 0
		place ann r 0 => ok
		cost => cost 5
		place cid r 2 => ok
		cost => cost 5 broken 1
		place bob r 1 => ok
		cost => cost 5 broken 1 3
		place dee r 3 => ok
		cost => cost 5 broken 1 3
		swap bob ann => ok
		cost => cost 7 broken 1 3
		place ann w 0 => ok
		cost => cost 2 broken 3
		place bob w 1 => ok
		stand ann => ok
		cost => cost 3
		place ann w 0 => ok
		cost => cost 0`)
}

// P12.1: prove.
func TestProve(t *testing.T) {
	o := dinner(t)
	tell(t, o, `
		rule weigh 5 at ann w => rules 1
		rule weigh 2 at bob w => rules 2
		rule hard peace - => rules 3
		prove => error 121
		begin => ok
		prove => error 82
		place ann r 0 => ok
		place bob r 1 => ok
		place cid w 0 => ok
		prove => error 82
		place dee w 1 => ok
		cost => cost 7
		prove => cheaper 0
		swap ann dee => ok
		cost => cost 2 broken 2
		prove => error 82
		swap cid dee => ok
		cost => cost 2
		prove => cheaper 0
		swap bob dee => ok
		cost => cost 0
		prove => best
		rule weigh 9 at bob r => rules 4
		prove => cheaper 2
		drop 1 => rules 3
		cost => cost 9
		prove => cheaper 0
		place bob r 3 => ok
		prove => best
		table k row 8 0 0 0 => tables 3
		prove => error 8
		stand bob => ok
		prove => error 82
		place bob w 0 => ok
		prove => error 8`)
}

// P12.1: show, card, chart and dishes.
func TestLists(t *testing.T) {
	o := dinner(t)
	tell(t, o, `
		show => error 121
		begin => ok
		show => ann - / bob - / cid - / dee -
		card ann => error 52
		card zoe => error 6
		chart r => table r / 0 - / 1 - / 2 - / 3 -
		chart x => error 6
		dishes =>
		place dee r 3 => ok
		place bob r 0 => ok
		place ann w 1 => ok
		show => ann w 1 / bob r 0 / cid - / dee r 3
		card ann => guest ann / table w 1 / diet vegan
		card dee => guest dee / rank duke / table r 3 / beside bob
		card cid => error 52
		chart r => table r / 0 bob / 1 - / 2 - / 3 dee
		chart w => table w / 0 - / 1 ann
		dishes => r - 1 / r vegan 1 / w vegan 1
		place cid w 0 => ok
		card cid => guest cid / rank count / table w 0 / beside ann
		dishes => r - 1 / r vegan 1 / w - 1 / w vegan 1`)
}

// P12.1: route and trips.
func TestRoutes(t *testing.T) {
	// r is 10 steps from the kitchen, w 30, and one of them 40 from the other.
	o := dinner(t)
	tell(t, o, `
		route => error 121
		begin => ok
		route => length 0
		trips 1 =>
		trips 0 => error 2
		place dee w 1 => ok
		route => length 60 w
		place ann r 0 => ok
		place bob w 0 => ok
		route => length 80 r w
		trips 3 => trip 3 80 r w
		trips 2 => trip 1 20 r / trip 2 60 w
		trips 1 => error 110
		trips 0 => error 2
		trips 999999999 => trip 3 80 r w`)
	for i := range 8 {
		name := "x" + string(rune('a'+i))
		tell(t, o, "table "+name+" row 1 0 0 0 => tables "+strconv.Itoa(3+i)+`
			guest `+name+` - - 0 0 - - => guests `+strconv.Itoa(5+i))
		if i < 7 {
			tell(t, o, "place "+name+" "+name+" 0 => ok")
		}
	}
	tell(t, o, `
		route => length 80 r w xa xb xc xd xe xf xg
		place xh xh 0 => ok
		route => error 8
		trips 0 => error 8
		trips 1 => error 8`)
}

// P12.1: order, classes, circles, camps and chain.
func TestGuestQuestions(t *testing.T) {
	o := dinner(t)
	tell(t, o, `
		order => error 32
		classes => dee bob cid ann
		clause rank duke => clauses 1
		classes => dee / bob cid ann
		order => error 32
		clause elder => clauses 2
		classes => dee / cid / bob / ann
		order => dee cid bob ann
		circles => ann / bob dee / cid
		friend cid ann => error 5
		friend cid bob => ties 3
		circles => ann / bob cid dee
		camps => camps 0 0 0 1
		feud ann bob => ties 4
		camps => camps 0 0 0 1
		feud ann dee => ties 5
		camps => camps 0 0 0 1
		chain dee bob => dee bob
		chain bob dee => bob dee
		chain ann ann => ann
		chain ann bob => error 9
		chain zoe zoe => error 9
		guest eve - - 0 0 - - greek latin => guests 5
		guest fay - - 0 0 - - greek => guests 6
		chain fay dee => fay eve dee
		camps => camps 0 0 0 1 0 0
		feud dee cid => ties 6
		camps => none`)
}

// P12.1: evenings.
func TestEvenings(t *testing.T) {
	o := dinner(t)
	tell(t, o, `
		evenings 2 2 2 => 0 1 / 2 3 // 0 2 / 1 3
		evenings 1 1 3 => 0 / 1 2 3
		evenings 1 4 => 0 1 2 3
		evenings 2 4 => 0 1 2 3 // 0 1 2 3
		evenings 0 4 =>
		evenings 0 3 => error 90
		evenings 1 2 => error 90
		evenings 1 2 2 1 => error 90
		evenings 1 4 0 => error 90
		evenings 65 2 2 => error 2
		evenings 65 2 1 => error 90
		evenings 1 999999999 999999999 => error 90`)
	if answer, e := o.Do("evenings 64 1 1 1 1"); answer != strings.TrimSuffix(strings.Repeat("0 / 1 / 2 / 3 // ", 64), " // ") || e != api.OK {
		t.Errorf("%q, %d", answer, e)
	}
}

// P12.1: state.
func TestState(t *testing.T) {
	o := dinner(t)
	tell(t, o, `
		clause name => clauses 1
		rule hard peace - => rules 1
		rule hard peace r => rules 2
		rule hard peace w => rules 3
		state => tables 2 guests 4 ties 2 clauses 1 rules 3 no plan
		begin => ok
		state => tables 2 guests 4 ties 2 clauses 1 rules 3 seated 0
		place cid r 0 => ok
		state => tables 2 guests 4 ties 2 clauses 1 rules 3 seated 1
		solve => cost 0
		state => tables 2 guests 4 ties 2 clauses 1 rules 3 seated 4`)
}

// P12.1: a line that asks changes nothing, and stands in no log.
func TestAsking(t *testing.T) {
	o := dinner(t)
	tell(t, o, `
		begin => ok
		place ann w 1 => ok
		place bob r 2 => ok`)
	text, log := o.Text(), o.Log()
	for _, line := range strings.Split("count,cost,prove,core,why ann,show,card ann,chart r,dishes,route,trips 3,order,classes,circles,camps,chain bob dee,evenings 2 2 2,state", ",") {
		first, e := o.Do(line)
		again, f := o.Do(line)
		if first != again || e != f || o.Text() != text || o.Log() != log {
			t.Errorf("%s: %q, %d, then %q, %d", line, first, e, again, f)
		}
	}
}

// P12.3: the plan and the problem are those that the lines made.
func TestPlanAndProblem(t *testing.T) {
	o := office.New()
	if x, ok := o.Plan(); len(x) != 0 || ok || !sameProblem(o.Problem(), api.Problem{}) {
		t.Error(x, ok, o.Problem())
	}
	tell(t, o, "begin => ok")
	if x, ok := o.Plan(); len(x) != 0 || !ok {
		t.Error(x, ok)
	}
	tell(t, o, `
		clear => ok
		table r round 4 0 7 9 1 3 => tables 1
		guest cid duke spain 1990 2 egg ha greek latin => guests 1
		guest ann - - 0 1 - - => guests 2
		feud cid ann => ties 1
		clause side 1 first => clauses 1
		rule weigh 7 seat cid r 2 => rules 1`)
	want := api.Problem{
		Tables: []api.Table{{Name: "r", Shape: api.Round, A: 4, Open: []int{1, 3}, X: 7, Y: 9}},
		Guests: []api.Guest{{Name: "cid", Rank: "duke", Court: "spain", Since: 1990, Side: 2, Diet: "egg", Host: true, Access: true, Tongues: []string{"greek", "latin"}}, {Name: "ann", Side: 1}},
		Ties:   []api.Tie{{A: "ann", B: "cid", Kind: api.Feud}},
		Class:  []int{1, 0},
		Rules:  []api.Rule{{Kind: api.Seat, Weight: 7, A: "cid", Table: "r", N: 2}},
	}
	if p := o.Problem(); !sameProblem(p, want) {
		t.Errorf("%+v", p)
	}
	if x, ok := o.Plan(); len(x) != 0 || ok {
		t.Error(x, ok)
	}
}
