package promises

import (
	"errors"
	"strings"
	"testing"

	"spinet/api"
	"spinet/machine"
	"spinet/monitor"
	"spinet/report"
)

// Of no machine, or of one that no New has made, each line is answered none the less, as of a new machine.
func TestP1NoMachine(t *testing.T) {
	for _, m := range []*machine.Machine{nil, {}} {
		one := monitor.New(m)
		other, e := machine.New(api.Config{Rom: 65536}, nil)
		if e != api.OK {
			t.Fatal(e)
		}
		two := monitor.New(other)
		for _, s := range []string{"r", "m 0 2", "w 0 8605B70100", "d 0 2", "b 2 x", "g 9", "s 1", "m 100 1", "c H Q N", "q", "r"} {
			if got, want := one.Exec(s), two.Exec(s); got != want || !strings.HasSuffix(got, "\n") {
				t.Errorf("%q: %q, not %q", s, got, want)
			}
		}
	}
}

// bad panics, when it is asked what it wraps.
type bad struct{}

func (bad) Error() string { panic("Error") }
func (bad) Unwrap() error { panic("Unwrap") }

// worse panics, when it is asked whether it is something else.
type worse struct{}

func (worse) Error() string { panic("Error") }
func (worse) As(any) bool   { panic("As") }

// worst sets what it is asked for, and then says no, or panics.
type worst struct{ panics bool }

func (worst) Error() string { return "worst" }
func (x worst) As(to any) bool {
	if w, ok := to.(**report.Wrong); ok {
		*w = &report.Wrong{Part: 3}
	}
	if x.panics {
		panic("As")
	}
	return false
}

// lies says that it is a *Wrong, and that this is nil.
type lies struct{}

func (lies) Error() string { return "lies" }
func (lies) As(to any) bool {
	_, ok := to.(**report.Wrong)
	return ok
}

// Errors whose methods panic, or lie, are none that has a Part.
func TestP1Errors(t *testing.T) {
	w := &report.Wrong{Part: 2, Line: 7, Code: api.ErrMode}
	var none *report.Wrong
	for name, c := range map[string]struct {
		e    error
		part int
		ok   bool
	}{
		"a nil one":        {none, 0, false},
		"a nil one within": {wraps{none}, 0, false},
		"says it is nil":   {lies{}, 0, false},
		"panics":           {bad{}, 0, false},
		"panics, too":      {worse{}, 0, false},
		"panics within":    {wraps{wraps{worse{}}}, 0, false},
		"says no":          {worst{}, 0, false},
		"says no, then is": {errors.Join(worst{}, w), 2, true},
		"sets, and panics": {wraps{worst{panics: true}}, 0, false},
		"panics behind":    {errors.Join(w, bad{}), 2, true},
	} {
		if part, ok := report.Part(c.e); part != c.part || ok != c.ok {
			t.Errorf("%s: %d, %v, not %d, %v", name, part, ok, c.part, c.ok)
		}
	}
}
