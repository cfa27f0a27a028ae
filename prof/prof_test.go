package prof_test

import (
	"math"
	"math/rand"
	"slices"
	"testing"

	"spinet/api"
	"spinet/machine"
	"spinet/prof"
	"spinet/slice"
)

// part: one that began at an address, with so many own records, and so many others, of which the first ones come ahead.
func part(at uint16, own, lost int) slice.Part {
	var p slice.Part
	for i := range lost {
		if i < 2 {
			p.Recs = append(p.Recs, api.Rec{Addr: 0xFFFF, Read: true})
		}
	}
	for i := range own {
		p.Recs = append(p.Recs, api.Rec{Addr: at + uint16(i), Read: true, Mine: true})
	}
	for len(p.Recs) < own+lost {
		p.Recs = append(p.Recs, api.Rec{Addr: 0xFFFF, Read: true, BA: true, BS: true})
	}
	p.Ended = own%2 > 0
	return p
}

// check: is what is counted this, in Top's order?
func check(t *testing.T, p *prof.Prof, want ...prof.Spot) {
	t.Helper()
	if got := p.Top(math.MaxInt); !slices.Equal(got, want) {
		t.Errorf("Top: %v, not %v", got, want)
	}
	var sum prof.Spot
	for _, w := range want {
		if s, ok := p.Of(w.At); s != w || !ok {
			t.Errorf("Of(%X): %v, %v, not %v", w.At, s, ok, w)
		}
		sum.Times += w.Times
		sum.Cycles += w.Cycles
		sum.Lost += w.Lost
	}
	if got := p.Sum(); got != sum {
		t.Errorf("Sum: %v, not %v", got, sum)
	}
	for many := range len(want) + 3 {
		if got := p.Top(many); !slices.Equal(got, want[:min(many, len(want))]) {
			t.Errorf("Top(%d): %v", many, got)
		}
	}
	for _, many := range []int{0, -1, math.MinInt} {
		if got := p.Top(many); len(got) != 0 {
			t.Errorf("Top(%d): %v", many, got)
		}
	}
}

func TestP53_1Known(t *testing.T) {
	var p prof.Prof
	p.Add(part(5, 2, 0), part(5, 3, 0))
	check(t, &p, prof.Spot{At: 5, Times: 2, Cycles: 5})
	p.Add(part(9, 4, 3))
	p.Add()
	p.Add(part(7, 5, 1), part(0, 1, 0), part(65535, 6, 0))
	check(t, &p, prof.Spot{At: 65535, Times: 1, Cycles: 6}, prof.Spot{At: 5, Times: 2, Cycles: 5}, prof.Spot{At: 7, Times: 1, Cycles: 5, Lost: 1},
		prof.Spot{At: 9, Times: 1, Cycles: 4, Lost: 3}, prof.Spot{At: 0, Times: 1, Cycles: 1})
	for _, at := range []uint16{1, 4, 6, 8, 10, 65534} {
		if s, ok := p.Of(at); s != (prof.Spot{}) || ok {
			t.Errorf("Of(%d): %v, %v", at, s, ok)
		}
	}
	// Those without an own record count for nothing, nor do their others.
	p.Add(part(5, 0, 7), slice.Part{}, slice.Part{Ended: true}, slice.Part{Recs: []api.Rec{{Addr: 5, LIC: true}}})
	p.Add(part(65535, 0, 2), part(5, 1, 2))
	check(t, &p, prof.Spot{At: 5, Times: 3, Cycles: 6, Lost: 2}, prof.Spot{At: 65535, Times: 1, Cycles: 6}, prof.Spot{At: 7, Times: 1, Cycles: 5, Lost: 1},
		prof.Spot{At: 9, Times: 1, Cycles: 4, Lost: 3}, prof.Spot{At: 0, Times: 1, Cycles: 1})
}

func TestP53_1Zero(t *testing.T) {
	var p prof.Prof
	check(t, &p)
	if s, ok := p.Of(0); s != (prof.Spot{}) || ok {
		t.Errorf("%v, %v", s, ok)
	}
	p.Clear()
	p.Add()
	check(t, &p)
	p.Add(slice.Part{}, part(3, 0, 4))
	check(t, &p)
	p.Add(part(0, 2, 1))
	check(t, &p, prof.Spot{Times: 1, Cycles: 2, Lost: 1})
}

func TestP53_1Clear(t *testing.T) {
	var p prof.Prof
	for range 3 {
		p.Add(part(1, 2, 3), part(4, 5, 6))
		check(t, &p, prof.Spot{At: 4, Times: 1, Cycles: 5, Lost: 6}, prof.Spot{At: 1, Times: 1, Cycles: 2, Lost: 3})
		p.Clear()
		check(t, &p)
		if s, ok := p.Of(4); s != (prof.Spot{}) || ok {
			t.Errorf("%v, %v", s, ok)
		}
		p.Clear()
	}
}

// Of as many cycles those at lower addresses come first, in whatever order they came, and however often.
func TestP53_1Order(t *testing.T) {
	r := rand.New(rand.NewSource(531))
	for range 50 {
		var p prof.Prof
		var want []prof.Spot
		var parts []slice.Part
		for at := range 40 {
			// Three, four times over; or one of so many cycles.
			if at%2 == 0 {
				parts = append(parts, slices.Repeat([]slice.Part{part(uint16(at*999), 3, at%3)}, 4)...)
				want = append(want, prof.Spot{At: uint16(at * 999), Times: 4, Cycles: 12, Lost: at % 3 * 4})
				continue
			}
			parts = append(parts, part(uint16(at*999), 12, 39-at))
			want = append(want, prof.Spot{At: uint16(at * 999), Times: 1, Cycles: 12, Lost: 39 - at})
		}
		r.Shuffle(len(parts), func(i, j int) { parts[i], parts[j] = parts[j], parts[i] })
		p.Add(parts...)
		check(t, &p, want...)
	}
}

func TestP53_1Any(t *testing.T) {
	r := rand.New(rand.NewSource(532))
	for range 200 {
		var p prof.Prof
		var parts []slice.Part
		for range r.Intn(5) {
			var more []slice.Part
			for range r.Intn(30) {
				more = append(more, part(uint16(r.Intn(9)*8191), r.Intn(5), r.Intn(5)))
			}
			p.Add(more...)
			parts = append(parts, more...)
		}
		check(t, &p, tally(parts)...)
	}
}

// tally: what is counted of parts, one address after the other.
func tally(parts []slice.Part) []prof.Spot {
	var out []prof.Spot
	for at := range 65536 {
		s := prof.Spot{At: uint16(at)}
		for _, p := range parts {
			i := slices.IndexFunc(p.Recs, func(r api.Rec) bool { return r.Mine })
			if i < 0 || int(p.Recs[i].Addr) != at {
				continue
			}
			s.Times++
			for _, r := range p.Recs {
				if r.Mine {
					s.Cycles++
				} else {
					s.Lost++
				}
			}
		}
		if s.Times > 0 {
			out = append(out, s)
		}
	}
	slices.SortStableFunc(out, func(a, b prof.Spot) int { return b.Cycles - a.Cycles })
	return out
}

// A loop of a machine: NOP, BRA to it, and one cycle that is granted.
func TestP53_1Machine(t *testing.T) {
	m, e := machine.New(api.Config{Rom: 65536}, []byte{0x12, 0x20, 0xFD})
	if e != api.OK {
		t.Fatal(e)
	}
	script := slices.Insert(make([]api.Pins, 15), 3, api.Pins{Req: true})
	var p prof.Prof
	p.Add(slice.Cut(m.Run(script...)...)...)
	check(t, &p, prof.Spot{At: 1, Times: 3, Cycles: 9, Lost: 1}, prof.Spot{Times: 3, Cycles: 6})
}

// Parts aren't kept, nor changed; what is answered is new memory.
func TestP2NewMemory(t *testing.T) {
	var p prof.Prof
	parts := []slice.Part{part(5, 2, 1), part(9, 4, 0)}
	want := []prof.Spot{{At: 9, Times: 1, Cycles: 4}, {At: 5, Times: 1, Cycles: 2, Lost: 1}}
	p.Add(parts...)
	if !slices.Equal(parts[0].Recs, part(5, 2, 1).Recs) || !slices.Equal(parts[1].Recs, part(9, 4, 0).Recs) {
		t.Error("what came in is another one")
	}
	clear(parts[0].Recs)
	clear(parts)
	top := p.Top(2)
	clear(top)
	one := p.Top(1)
	_ = append(one, prof.Spot{At: 99})
	for range 3 {
		check(t, &p, want...)
	}
	var other prof.Prof
	check(t, &other)
}
