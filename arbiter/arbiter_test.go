package arbiter_test

import (
	"math"
	"math/rand"
	"slices"
	"testing"

	"spinet/arbiter"
)

// numbers: those around phases and counts, and far ones.
func numbers() []int {
	out := []int{math.MinInt, math.MinInt + 1, -1 << 32, 1 << 32, 1<<32 + 1, 255, 256, 257, math.MaxInt}
	for n := -5; n < 25; n++ {
		out = append(out, n)
	}
	return out
}

// rights: the states of a kind, written by hand.
func rights(kind int) []arbiter.State {
	if kind == 0 {
		return []arbiter.State{{}}
	}
	out := []arbiter.State{{Phase: 0}, {Phase: 2}}
	for n := 0; n <= 15; n++ {
		out = append(out, arbiter.State{Phase: 1, Count: n})
	}
	return out
}

func TestP30_1Constants(t *testing.T) {
	if arbiter.Own != 0 || arbiter.Granted != 1 || arbiter.Dead != 2 || arbiter.Run != 0 || arbiter.Gone != 1 || arbiter.Back != 2 || arbiter.Most != 15 {
		t.Error("the constants aren't those of the chapter")
	}
}

func TestP30_1Right(t *testing.T) {
	for _, kind := range numbers() {
		for _, phase := range numbers() {
			for _, count := range numbers() {
				s := arbiter.State{Phase: phase, Count: count}
				want := (kind == 0 || kind == 1) && slices.Contains(rights(kind), s)
				if got := arbiter.Right(kind, s); got != want {
					t.Fatalf("Right(%d, %+v): %v", kind, s, got)
				}
			}
		}
	}
}

func TestP30_1NextTsc(t *testing.T) {
	for range 2 {
		if s, whose := arbiter.Next(0, arbiter.State{}, true); s != (arbiter.State{}) || whose != arbiter.Granted {
			t.Errorf("wanted: %+v, %d", s, whose)
		}
		if s, whose := arbiter.Next(0, arbiter.State{}, false); s != (arbiter.State{}) || whose != arbiter.Own {
			t.Errorf("not wanted: %+v, %d", s, whose)
		}
	}
}

func TestP30_1NextDma(t *testing.T) {
	type then struct {
		s     arbiter.State
		whose int
	}
	gone := func(n int) arbiter.State { return arbiter.State{Phase: arbiter.Gone, Count: n} }
	run, back := arbiter.State{Phase: arbiter.Run}, arbiter.State{Phase: arbiter.Back}
	cases := []struct {
		from    arbiter.State
		yes, no then
	}{
		{run, then{gone(0), arbiter.Dead}, then{run, arbiter.Own}},
		{back, then{run, arbiter.Own}, then{run, arbiter.Own}},
		{gone(15), then{back, arbiter.Dead}, then{back, arbiter.Dead}},
	}
	for n := range 15 {
		cases = append(cases, struct {
			from    arbiter.State
			yes, no then
		}{gone(n), then{gone(n + 1), arbiter.Granted}, then{back, arbiter.Dead}})
	}
	for _, c := range cases {
		if s, whose := arbiter.Next(1, c.from, true); (then{s, whose}) != c.yes {
			t.Errorf("%+v, wanted: %+v, %d, not %+v", c.from, s, whose, c.yes)
		}
		if s, whose := arbiter.Next(1, c.from, false); (then{s, whose}) != c.no {
			t.Errorf("%+v, not wanted: %+v, %d, not %+v", c.from, s, whose, c.no)
		}
	}
}

// From a state that is Right another one comes.
func TestP30_1StaysRight(t *testing.T) {
	for kind := range 2 {
		for _, s := range rights(kind) {
			for _, req := range []bool{false, true} {
				if to, whose := arbiter.Next(kind, s, req); !arbiter.Right(kind, to) || whose < 0 || whose > 2 {
					t.Errorf("Next(%d, %+v, %v): %+v, %d", kind, s, req, to, whose)
				}
			}
		}
	}
}

func TestP30_2Plan(t *testing.T) {
	cases := []struct {
		kind int
		req  string
		want string
	}{
		{1, "yynn", "DGDO"},
		{0, "yynny", "GGOOG"},
		{1, "", ""},
		{0, "", ""},
		{1, "nnn", "OOO"},
		{1, "ynn", "DDO"},
		{1, "ynyn", "DDOO"},
		{1, "ynyy", "DDOD"},
		{1, "ynnyynynn", "DDODGDOOO"},
		{1, "ynnyynyyn", "DDODGDODD"},
		// One more than Most, and just as many.
		{1, "yyyyyyyyyyyyyyyyyyy", "DGGGGGGGGGGGGGGGDOD"},
		{1, "yyyyyyyyyyyyyyyynn", "DGGGGGGGGGGGGGGGDO"},
		{1, "yyyyyyyyyyyyyyynnn", "DGGGGGGGGGGGGGGDOO"},
	}
	for _, c := range cases {
		var req []bool
		for _, x := range c.req {
			req = append(req, x == 'y')
		}
		kept := slices.Clone(req)
		for range 2 {
			got := arbiter.Plan(c.kind, req...)
			var letters []byte
			for _, whose := range got {
				letters = append(letters, "OGD"[whose])
			}
			if string(letters) != c.want || !slices.Equal(req, kept) {
				t.Errorf("Plan(%d, %s): %s, not %s", c.kind, c.req, letters, c.want)
			}
			// What is answered is new memory (P2 of DOC.md).
			clear(got)
		}
	}
}

// A plan is what Next tells, one by one.
func TestP30_2PlanIsNext(t *testing.T) {
	r := rand.New(rand.NewSource(30))
	for n := range 500 {
		var req []bool
		var want []int
		var s arbiter.State
		for range r.Intn(200) {
			// Mostly wanted, so that it is granted for long.
			yes := r.Intn(12) > 0
			var whose int
			s, whose = arbiter.Next(n%2, s, yes)
			req, want = append(req, yes), append(want, whose)
		}
		if got := arbiter.Plan(n%2, req...); !slices.Equal(got, want) {
			t.Fatalf("Plan(%d, %v): %v, not %v", n%2, req, got, want)
		}
	}
}

func TestP30_3ForGood(t *testing.T) {
	req := make([]bool, 18*50)
	var want []int
	for i := range req {
		req[i] = true
		switch i % 18 {
		case 0, 16:
			want = append(want, arbiter.Dead)
		case 17:
			want = append(want, arbiter.Own)
		default:
			want = append(want, arbiter.Granted)
		}
	}
	if got := arbiter.Plan(1, req...); !slices.Equal(got, want) {
		t.Errorf("%v, not %v", got, want)
	}
}

// Of kinds and states that are none nothing is promised but that the call ends (P1 of DOC.md).
func TestP1AnyState(t *testing.T) {
	for _, kind := range numbers() {
		for _, phase := range numbers() {
			for _, count := range numbers() {
				for _, req := range []bool{false, true} {
					if _, whose := arbiter.Next(kind, arbiter.State{Phase: phase, Count: count}, req); whose < 0 || whose > 2 {
						t.Fatalf("Next(%d, {%d %d}, %v): %d", kind, phase, count, req, whose)
					}
				}
			}
		}
		if got := arbiter.Plan(kind, true, false); len(got) != 2 {
			t.Fatalf("Plan(%d): %v", kind, got)
		}
	}
}
