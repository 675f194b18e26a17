package race_test

import (
	"math"
	"slices"
	"testing"

	"culprit/api"
	"culprit/race"
)

// A turning is a call of Turn, for the race between the steps First and Second, with its result.
type turning struct {
	what          string
	test          test
	word          []int
	first, second int
	want          []int
	e             api.Errno
}

func turnings(t *testing.T) []turning {
	plain := example(t)
	one := func(of0 string, e api.Env) test {
		return testOf(t, "var x = 0;", "file f ;", "proc p { x = 1; }", "test t { go p; "+of0+" x = 2; }").in(e)
	}
	two := testOf(t, "var x = 0;", "chan d 0;", "proc p { x = 1; recv d $a; }", "proc q { recv d $a; }", "test t { go p; go q; send d 1; x = 2; }")
	three := testOf(t, "var x = 0;", "chan d 0;", "proc p { x = 1; recv d $a; }", "proc q { recv d $a; }", "test t { go p; go q; go q; send d 1; x = 2; }")
	left := testOf(t, "var x = 0;", "var y = 0;", "proc p { x = 1; go q; y = 3; }", "proc q { y = 1; }", "test t { go p; go q; x = 2; sleep 9; }")
	ahead := testOf(t, "var x = 0;", "proc p { draw $a 3; x = 1; }", "test t { draw $a 4; go p; x = 2; }")
	sent := testOf(t, "var x = 0;", "var y = 0;", "chan c 2;", "proc p { x = 1; send c 1; }", "proc q { y = 2; }", "test t { go p; go q; y = 1; x = 2; recv c $a; draw $b 3; }")
	return []turning{
		{"the example", plain, []int{1, 1}, 2, 3, []int{1}, api.OK},
		{"the example with noughts", plain, []int{1, 1, 0, 0}, 2, 3, []int{1}, api.OK},
		{"the first and the last access of the example", plain, []int{1, 1}, 1, 4, nil, api.OK},
		{"both Puts of the example", plain, []int{1, 1}, 2, 4, []int{1}, api.OK},
		{"a Put of the test", plain, []int{0, 0, 1, 1}, 2, 3, []int{0, 1}, api.OK},
		{"a Put of the test, and the Put behind the Get", plain, []int{0, 0, 1, 1}, 2, 4, []int{0, 1, 1}, api.OK},
		{"a draw on the way", one("draw $a 3;", api.Env{}), []int{1, 0, 2}, 1, 3, []int{0, 2}, api.OK},
		{"another draw on the way", one("draw $a 3;", api.Env{}), []int{1, 0, 1}, 1, 3, []int{0, 1}, api.OK},
		{"a look at the clock on the way", one("now $a;", api.Env{Skew: 3}), []int{1, 0, 1}, 1, 3, []int{0, 1}, api.OK},
		{"a look at the clock without jumps", one("now $a;", api.Env{}), []int{1}, 1, 3, nil, api.OK},
		{"a lost Write on the way", one("write f 1;", api.Env{Fault: 3}), []int{1, 0, 1}, 1, 3, []int{0, 1}, api.OK},
		{"a Write on the way", one("write f 1;", api.Env{Fault: 3}), []int{1, 0, 0}, 1, 3, nil, api.OK},
		{"the second receiver, who is then alone", two, []int{0, 1, 1}, 2, 4, nil, api.OK},
		{"the third receiver, who is then the second one", three, []int{0, 0, 1, 2}, 3, 5, []int{0, 0, 0, 1}, api.OK},
		{"the second receiver, who is then the first one", three, []int{0, 0, 1, 1}, 3, 5, nil, api.OK},
		{"a thread that First comes ahead of", left, []int{1, 1}, 1, 4, nil, api.OK},
		{"choices ahead of it", ahead, []int{3, 1, 2, 1}, 3, 4, []int{3, 1, 2}, api.OK},
		{"a step of a third thread on the way", sent, []int{0, 1, 2}, 2, 5, []int{0, 2}, api.OK},
		{"a Send that First comes ahead of", sent, []int{0, 1, 1, 2, 0, 0, 0, 2}, 2, 6, []int{0, 2}, api.OK},
	}
}

func TestTurn(t *testing.T) {
	for _, c := range turnings(t) {
		c.check(t)
	}
}

// check compares a call of Turn with what is wanted, and returns the race.
func (c turning) check(t *testing.T) race.Race {
	t.Helper()
	x := c.test
	r := x.tell(c.word)
	l := refRaces(x.c, r)
	i := slices.IndexFunc(l, func(of race.Race) bool { return of.First == c.first && of.Second == c.second })
	if i < 0 {
		t.Fatalf("%s: no such race: %v in %v", c.what, l, r)
	}
	if word, e := race.Turn(x.c, x.e, x.left, c.word, l[i]); e != c.e || !slices.Equal(word, c.want) {
		t.Errorf("P13.4: Turn of %s: %v, %v; want %v, %v", c.what, word, e, c.want, c.e)
	}
	return l[i]
}

// TestCannotTurn: what the steps do depends on what is left out.
func TestCannotTurn(t *testing.T) {
	of := func(of0 string, more ...string) test {
		return testOf(t, append([]string{"var x = 0;", "var y = 0;", "chan d 0;", "proc p { x = 1; y = 1; }", "test t { go p; " + of0 + " x = 2; }"}, more...)...)
	}
	check := of("check y;")
	asleep := of("sleep 2;")
	receiver := of("go q; go r; send d 1;", "proc q { if y { recv d $a; } }", "proc r { recv d $a; }")
	number := testOf(t, "var x = 0;", "var y = 0;", "proc p { x = 1; go r; }", "proc q { y = 1; }", "proc r { sleep 9; }", "test t { go p; go q; x = 2; sleep 9; }")
	spent := testOf(t, "var x = 0;", "var y = 0;", "proc p { x = 1; y = 1; }", "test t { go p; if y { } else { release l; } x = 2; }", "lock l ;")
	for _, c := range []struct {
		turning
		why string // what the reference says
	}{
		{turning{"a check that fails", check, []int{1, 1}, 1, 4, nil, api.ErrDiffer}, "over"},
		{turning{"a check that fails behind the second step", check, []int{1, 1}, 2, 3, []int{1}, api.OK}, ""},
		{turning{"a Release instead", spent, []int{1, 1}, 1, 4, nil, api.ErrDiffer}, "another instruction"},
		{turning{"another access", of("if y { x = 3; }"), []int{1, 1}, 1, 4, nil, api.ErrDiffer}, "another instruction"},
		{turning{"another access on the way", of("if y { y = 7; }"), []int{1, 1}, 1, 5, nil, api.ErrDiffer}, "another instruction"},
		{turning{"a thread that sleeps instead", of("if y { } else { sleep 1; }"), []int{1, 1}, 1, 4, nil, api.ErrDiffer}, "not enabled"},
		{turning{"a thread that waits instead, and one other", of("if y { } else { recv d $a; }"), []int{1, 1}, 1, 4, nil, api.ErrDiffer}, "not enabled"},
		{turning{"a thread that waits instead, and two others", of("go q; if y { } else { recv d $a; }", "proc q { y = 0; }"), []int{0, 1, 1}, 2, 5, nil, api.ErrDiffer}, "not enabled"},
		{turning{"a thread that sleeps longer", asleep, nil, 1, 4, nil, api.ErrDiffer}, "not enabled"},
		{turning{"a receiver that is not there", receiver, []int{0, 0, 1, 1, 2}, 3, 7, nil, api.ErrDiffer}, "no such alternative"},
		{turning{"a thread with another number", number, []int{1, 1, 0, 2}, 1, 5, nil, api.ErrDiffer}, "not enabled"},
		{turning{"a check that fails ahead of the first instruction of the code", testOf(t, "var x = 0;", "var y = 0;", "proc o { $a = x; }", "proc p { x = 1; y = 1; }", "test t { go p; check y; call o; }"), []int{1, 1}, 1, 4, nil, api.ErrDiffer}, "over"},
		{turning{"a thread that waits ahead of the first instruction of the code", testOf(t, "var x = 0;", "var y = 0;", "chan d 0;", "proc o { $a = x; }", "proc p { x = 1; y = 1; }", "test t { go p; go p; if y { } else { recv d $a; } call o; }"), []int{0, 1, 1}, 2, 5, nil, api.ErrDiffer}, "not enabled"},
		{turning{"a thread that waits, while that of the first step stands at the same instruction", testOf(t, "var x = 0;", "var y = 0;", "chan d 0;", "proc p { if y { recv d $a; } x = 1; y = 0; }", "test t { go p; go p; y = 1; recv d $a; }"), []int{0, 1, 0, 0, 0, 1, 1}, 4, 7, nil, api.ErrDiffer}, "not enabled"},
		{turning{"the same without steps of this thread", number, []int{1, 1}, 1, 4, nil, api.OK}, ""},
	} {
		of := c.check(t)
		if _, why := c.test.refTurn(c.test.tell(c.word), of); why != c.why {
			t.Errorf("%s: the reference says: %s", c.what, why)
		}
	}
}

// TestTurnOfNoRace: what is no race of the run.
func TestTurnOfNoRace(t *testing.T) {
	x := example(t)
	is := onX(2, 3, "p", "t", 3, 6)
	for _, c := range []struct {
		what string
		word []int
		r    race.Race
	}{
		{"nothing", []int{1, 1}, race.Race{}},
		{"a race of another run", nil, is},
		{"a race of a further run", []int{1}, is},
		{"steps that access nothing", []int{1, 1}, onX(0, 5, "t", "t", 5, 10)},
		{"two Gets", []int{1}, onX(1, 2, "p", "t", 0, 6)},
		{"two steps of one thread", []int{1, 1}, onX(1, 2, "p", "p", 0, 3)},
		{"a step twice", []int{1, 1}, onX(2, 2, "p", "p", 3, 3)},
		{"the steps the other way round", []int{1, 1}, onX(3, 2, "t", "p", 6, 3)},
		{"a step behind the last one", []int{1, 1}, onX(2, 6, "p", "t", 3, 6)},
		{"numbers that are no steps", []int{1, 1}, onX(math.MinInt, math.MaxInt, "p", "t", 3, 6)},
		{"another variable", []int{1, 1}, race.Race{First: 2, Second: 3, Var: "y", Wheres: is.Wheres, PCs: is.PCs}},
		{"another procedure", []int{1, 1}, onX(2, 3, "t", "t", 3, 6)},
		{"another second procedure", []int{1, 1}, onX(2, 3, "p", "", 3, 6)},
		{"another instruction", []int{1, 1}, onX(2, 3, "p", "t", 0, 6)},
		{"another second instruction", []int{1, 1}, onX(2, 3, "p", "t", 3, 9)},
		{"another second step", []int{1, 1}, onX(2, 4, "p", "t", 3, 6)},
	} {
		if word, e := race.Turn(x.c, x.e, x.left, c.word, c.r); e != api.ErrNone || len(word) != 0 {
			t.Errorf("P13.4: Turn of %s: %v, %v", c.what, word, e)
		}
	}
}
