package ring_test

import (
	"math"
	"math/rand"
	"slices"
	"testing"

	"spinet/api"
	"spinet/ring"
)

// count: records that are told apart by their addresses, from one on.
func count(from, many int) []api.Rec {
	out := make([]api.Rec, 0, many)
	for n := from; n < from+many; n++ {
		out = append(out, api.Rec{Addr: uint16(n), Data: byte(n >> 16), Read: n%3 > 0, Mine: n%2 > 0})
	}
	return out
}

// back: what Back goes through.
func back(r *ring.Ring) []api.Rec {
	var out []api.Rec
	for x := range r.Back() {
		out = append(out, x)
	}
	return out
}

// sheet is a ring as the tests know it: all that came.
type sheet struct {
	most int
	came []api.Rec
}

// there: those that are left.
func (s *sheet) there() []api.Rec { return s.came[max(0, len(s.came)-s.most):] }

// last: the last one that is left of which something is so.
func (s *sheet) last(is func(api.Rec) bool) (api.Rec, bool) {
	l := s.there()
	for i := len(l) - 1; i >= 0; i-- {
		if is(l[i]) {
			return l[i], true
		}
	}
	return api.Rec{}, false
}

// check: is a ring as it must be?
func (s *sheet) check(t *testing.T, r *ring.Ring) {
	t.Helper()
	want := s.there()
	if r.Len() != len(want) || r.Total() != uint64(len(s.came)) {
		t.Fatalf("Len %d, Total %d, not %d, %d", r.Len(), r.Total(), len(want), len(s.came))
	}
	if got := r.All(); !slices.Equal(got, want) {
		t.Fatalf("All: %v, not %v", got, want)
	}
	want = slices.Clone(want)
	slices.Reverse(want)
	if got := back(r); !slices.Equal(got, want) {
		t.Fatalf("Back: %v, not %v", got, want)
	}
}

func TestP58_1Most(t *testing.T) {
	if ring.Most != 4096 {
		t.Error(ring.Most)
	}
}

// As many as it is made for, cut to 1 to 4096, are left.
func TestP58_1New(t *testing.T) {
	all := count(0, 5000)
	for n, want := range map[int]int{
		math.MinInt: 1, -1 << 32: 1, -4096: 1, -1: 1, 0: 1, 1: 1, 2: 2, 3: 3, 100: 100, 4095: 4095, 4096: 4096,
		4097: 4096, 5000: 4096, 1 << 32: 4096, 1<<32 + 1: 4096, math.MaxInt: 4096,
	} {
		r := ring.New(n)
		if r == nil {
			t.Fatalf("New(%d): none", n)
		}
		s := sheet{most: want}
		s.check(t, r)
		if x, ok := r.Last(func(api.Rec) bool { return true }); ok || x != (api.Rec{}) {
			t.Errorf("Last of none: %+v, %v", x, ok)
		}
		if x, ok := r.Written(0); ok || x != (api.Rec{}) {
			t.Errorf("Written of none: %+v, %v", x, ok)
		}
		for _, cut := range [][]api.Rec{all[:want-1], all[want-1 : want], all[want : want+1], all[want+1:]} {
			r.Add(cut...)
			s.came = append(s.came, cut...)
			s.check(t, r)
		}
		// All of them at once.
		r, s = ring.New(n), sheet{want, all}
		r.Add(all...)
		s.check(t, r)
	}
}

func TestP58_1Example(t *testing.T) {
	r := ring.New(1)
	r.Add(api.Rec{Addr: 1}, api.Rec{Addr: 2})
	if !slices.Equal(r.All(), []api.Rec{{Addr: 2}}) || r.Total() != 2 {
		t.Error(r.All(), r.Total())
	}
}

func TestP58_1AnyCalls(t *testing.T) {
	r := rand.New(rand.NewSource(1))
	for _, most := range []int{1, 2, 3, 4, 5, 7, 8, 16, 63} {
		x := ring.New(most)
		s := sheet{most: most}
		for n := range 600 {
			switch r.Intn(20) {
			case 0:
				x.Clear()
				s.came = nil
			case 1:
				x.Add()
			default:
				l := count(n, r.Intn(3*most+2))
				r.Shuffle(len(l), func(i, j int) { l[i], l[j] = l[j], l[i] })
				x.Add(l...)
				s.came = append(s.came, l...)
			}
			s.check(t, x)
			at := uint16(n + r.Intn(5))
			wrote := func(x api.Rec) bool { return x.Addr == at && !x.Read }
			odd := func(x api.Rec) bool { return x.Data%2 == 1 && x.Addr > at }
			want, ok := s.last(wrote)
			if got, so := x.Written(at); got != want || so != ok {
				t.Fatalf("Written(%d): %+v, %v, not %+v, %v", at, got, so, want, ok)
			}
			want, ok = s.last(odd)
			if got, so := x.Last(odd); got != want || so != ok {
				t.Fatalf("Last: %+v, %v, not %+v, %v", got, so, want, ok)
			}
		}
	}
}

// Records of any levels come back as they were.
func TestP58_1Records(t *testing.T) {
	r := rand.New(rand.NewSource(2))
	on := func() bool { return r.Intn(2) == 0 }
	x, s := ring.New(50), sheet{most: 50}
	for range 200 {
		one := api.Rec{Addr: uint16(r.Intn(65536)), Data: byte(r.Intn(256)), Read: on(), BA: on(), BS: on(), LIC: on(), AVMA: on(), BUSY: on(), Mine: on()}
		x.Add(one)
		s.came = append(s.came, one)
		s.check(t, x)
	}
}

func TestP58_1Last(t *testing.T) {
	x := ring.New(4)
	x.Add(count(0, 10)...)
	var asked []uint16
	got, ok := x.Last(func(r api.Rec) bool {
		asked = append(asked, r.Addr)
		return r.Addr <= 7
	})
	if !ok || got != count(7, 1)[0] || !slices.Equal(asked, []uint16{9, 8, 7}) {
		t.Errorf("%+v, %v, behind %v", got, ok, asked)
	}
	// One that is gone isn't found.
	if got, ok := x.Last(func(r api.Rec) bool { return r.Addr == 5 }); ok || got != (api.Rec{}) {
		t.Errorf("%+v, %v", got, ok)
	}
}

func TestP58_1Written(t *testing.T) {
	x := ring.New(6)
	x.Add(
		api.Rec{Addr: 5, Data: 9},
		api.Rec{Addr: 5, Data: 1},
		api.Rec{Addr: 6, Data: 2, Mine: true},
		api.Rec{Addr: 5, Data: 3, Mine: true},
		api.Rec{Addr: 5, Data: 4, Read: true, Mine: true},
		api.Rec{Addr: 0xFFFF, Data: 5, Read: true},
		api.Rec{Addr: 0, Data: 6},
	)
	for _, c := range []struct {
		at   uint16
		data byte
		ok   bool
	}{{5, 3, true}, {6, 2, true}, {0, 6, true}, {0xFFFF, 0, false}, {7, 0, false}, {0x105, 0, false}} {
		if got, ok := x.Written(c.at); got.Data != c.data || ok != c.ok || !ok && got != (api.Rec{}) {
			t.Errorf("Written(%04X): %+v, %v", c.at, got, ok)
		}
	}
	// When the ones at 5 have gone, none is left there.
	x.Add(count(100, 3)...)
	if got, ok := x.Written(5); ok || got != (api.Rec{}) {
		t.Errorf("%+v, %v", got, ok)
	}
}

func TestP58_1Clear(t *testing.T) {
	x, s := ring.New(3), sheet{most: 3}
	for range 3 {
		x.Clear()
		s.came = nil
		s.check(t, x)
		for n := range 8 {
			x.Add(count(n, 1)...)
			s.came = append(s.came, count(n, 1)...)
			s.check(t, x)
		}
	}
}

// What comes in isn't kept or changed, and what is told is new memory.
func TestP58_1Memory(t *testing.T) {
	for _, many := range []int{3, 5, 6, 12} {
		x, s := ring.New(5), sheet{most: 5}
		l := count(0, many+3)[:many]
		kept := slices.Clone(l[:many+3])
		x.Add(l...)
		s.came = append(s.came, l...)
		clear(x.All())
		_ = append(x.All(), count(70, 2)...)
		s.check(t, x)
		if !slices.Equal(l[:many+3], kept) {
			t.Error("Add changed what it was given")
		}
		clear(l)
		s.check(t, x)
		told := x.All()
		want := slices.Clone(told)
		x.Add(count(50, 4)...)
		if !slices.Equal(told, want) {
			t.Error("what All told has changed")
		}
	}
}

// An iterator may be left at any time, and gone through again: then through what is there then.
func TestP58_1Back(t *testing.T) {
	x := ring.New(5)
	seq := x.Back()
	if seq == nil {
		t.Fatal("none")
	}
	for range seq {
		t.Error("something of nothing")
	}
	x.Add(count(0, 8)...)
	for leave := range 7 {
		for range 2 {
			var got []uint16
			for r := range seq {
				if len(got) == leave {
					break
				}
				got = append(got, r.Addr)
			}
			if want := []uint16{7, 6, 5, 4, 3}[:min(leave, 5)]; !slices.Equal(got, want) {
				t.Errorf("left behind %d: %v, not %v", leave, got, want)
			}
		}
	}
	x.Add(count(20, 2)...)
	var got []uint16
	for r := range seq {
		got = append(got, r.Addr)
	}
	if !slices.Equal(got, []uint16{21, 20, 7, 6, 5}) {
		t.Errorf("gone through again: %v", got)
	}
	x.Clear()
	for range seq {
		t.Error("something of nothing")
	}
}

// Whoever goes through them may do anything with them on the way.
func TestP1Within(t *testing.T) {
	for _, do := range []func(*ring.Ring){(*ring.Ring).Clear, func(x *ring.Ring) { x.Add(count(90, 7)...) }, func(x *ring.Ring) { x.Add(count(90, 1)...) }} {
		x := ring.New(4)
		x.Add(count(0, 6)...)
		n := 0
		for range x.Back() {
			do(x)
			n++
		}
		if n != 4 {
			t.Errorf("%d of 4", n)
		}
		x.Clear()
		x.Add(count(0, 6)...)
		x.Last(func(api.Rec) bool {
			do(x)
			return false
		})
	}
}

// What can't be asked says no (P1 of DOC.md).
func TestP1Last(t *testing.T) {
	x := ring.New(4)
	for range 2 {
		if got, ok := x.Last(nil); ok || got != (api.Rec{}) {
			t.Errorf("%+v, %v", got, ok)
		}
		if got, ok := x.Last(func(api.Rec) bool { panic("no") }); ok || got != (api.Rec{}) {
			t.Errorf("%+v, %v", got, ok)
		}
		x.Add(count(0, 3)...)
	}
}

// Two of them have nothing in common, and the same calls answer the same again (P2 of DOC.md).
func TestP2Alone(t *testing.T) {
	x, y := ring.New(3), ring.New(4)
	s, u := sheet{most: 3}, sheet{most: 4}
	for n := range 10 {
		x.Add(count(n, 2)...)
		s.came = append(s.came, count(n, 2)...)
		y.Add(count(100+n, 3)...)
		u.came = append(u.came, count(100+n, 3)...)
		for range 2 {
			s.check(t, x)
			u.check(t, y)
		}
	}
	y.Clear()
	s.check(t, x)
}
