package office_test

import (
	"math/rand"
	"slices"
	"testing"

	"trestle/api"
	"trestle/office"
)

// P12.4: the reasons of the chapter's first example.
func TestWhy(t *testing.T) {
	o := open(t, `
		table r round 4 0 0 0 => tables 1
		guest anna - - 0 0 - h => guests 1
		guest boris - - 0 0 - - => guests 2
		guest carl - - 0 0 - - => guests 3
		rule hard beside anna boris => rules 1
		rule weigh 3 across anna carl => rules 2
		why boris => error 121
		solve => cost 0
		why boris => r 0 more 3 / r 2 hard 0 / r 3 same
		why anna => r 1 more 3 / r 2 same / r 3 hard 0
		why carl => r 0 same / r 1 hard 0 / r 3 more 3`)
	l, e := o.Why("boris")
	want := []office.Reason{{Seat: 0, Guest: 0, Rule: -1, More: 3}, {Seat: 2, Guest: 2, Rule: 0}, {Seat: 3, Guest: -1, Rule: -1}}
	if want[1].More = 3; !slices.Equal(l, want) || e != api.OK {
		t.Error(l, e)
	}
}

// P12.4: more, less, same and hard; the first hard rule that has more faults, which may have faults already.
func TestReasons(t *testing.T) {
	o := open(t, `
		table w row 3 0 0 0 => tables 1
		table k row 1 0 0 0 => tables 2
		guest ann - - 0 0 - - => guests 1
		guest bob - - 0 0 - - => guests 2
		guest cid - - 0 0 - - => guests 3
		begin => ok
		place ann w 0 => ok
		place bob w 1 => ok
		why ann => w 1 same / w 2 same / k 0 same
		why cid => error 52
		why zoe => error 6
		rule weigh 4 at ann w => rules 1
		rule weigh 7 beside ann bob => rules 2
		rule hard limit k 0 => rules 3
		rule hard seat bob w 1 => rules 4
		why ann => w 1 hard 3 / w 2 same / k 0 hard 2
		why bob => w 0 hard 3 / w 2 hard 3 / k 0 hard 2
		drop 2 => rules 3
		why ann => w 1 hard 2 / w 2 same / k 0 more 11
		place ann k 0 => ok
		place cid w 0 => ok
		cost => cost 11
		why ann => w 0 less 11 / w 1 hard 2 / w 2 less 11
		why cid => w 1 hard 2 / w 2 same / k 0 less 11
		rule hard fill w 3 => rules 4
		cost => cost 11 broken 3
		why cid => w 1 hard 2 / w 2 same / k 0 less 11
		why bob => w 0 hard 2 / w 2 hard 2 / k 0 hard 2
		place cid w 2 => ok
		stand ann => ok
		why cid => w 0 same / w 1 hard 2 / k 0 hard 3`)
	l, e := o.Why("cid")
	want := []office.Reason{{Seat: 0, Guest: -1, Rule: -1}, {Seat: 1, Guest: 1, Rule: 2}, {Seat: 3, Guest: -1, Rule: 3}}
	if !slices.Equal(l, want) || e != api.OK {
		t.Error(l, e)
	}
	for name, want := range map[string]api.Errno{"ann": api.ErrMiss, "zoe": api.ErrUnknown, "": api.ErrUnknown, "Ann": api.ErrUnknown, "a b\n": api.ErrUnknown} {
		if l, e := o.Why(name); len(l) != 0 || e != want {
			t.Errorf("Why(%q): %v, %d", name, l, e)
		}
	}
	tell(t, o, "clear => ok")
	for _, name := range []string{"ann", "bob", "zoe"} {
		if l, e := o.Why(name); len(l) != 0 || e != api.ErrNoPlan {
			t.Errorf("Why(%q) without a plan: %v, %d", name, l, e)
		}
	}
	// Without another seat there is nothing to say.
	open(t, `
		table k row 1 0 0 0 => tables 1
		guest ann - - 0 0 - - => guests 1
		solve => cost 0
		why ann =>`)
}

// P12.4: against a model that asks a judge rule by rule.
func TestWhyModel(t *testing.T) {
	r := rand.New(rand.NewSource(3))
	hard, more, less := 0, 0, 0
	for range 300 {
		o, d := office.New(), newDesk()
		lines := start(r)
		for range 6 {
			lines = append(lines, "rule "+anyRule(r))
		}
		lines = append(lines, "feud ann bob", "friend ann cid", "clause name", pick(r, "solve", "begin"), pick(r, "solve", "build 3"))
		for range 4 {
			lines = append(lines, pick(r, "place ", "place ", "stand ")+anyName(r)+pick(r, "", " r 0", " r 1", " w 1", " r 2"))
		}
		for _, line := range lines {
			o.Do(line)
			d.do(line)
		}
		p, part := d.problem()
		if _, e := o.Why("zoe"); d.seats == nil && e != api.ErrNoPlan {
			t.Fatalf("%q: %d", lines, e)
		}
		if d.seats == nil {
			continue
		}
		for g, x := range p.Guests {
			want, f := whyModel(p, part, g)
			l, e := o.Why(x.Name)
			if e != f || !slices.Equal(l, want) {
				t.Fatalf("%q: Why(%s): %v, %d, not %v, %d", lines, x.Name, l, e, want, f)
			}
			for _, x := range l {
				switch {
				case x.Rule >= 0:
					hard++
				case x.More > 0:
					more++
				case x.More < 0:
					less++
				}
			}
		}
	}
	if hard < 300 || more < 300 || less < 90 {
		t.Error(hard, more, less)
	}
}
