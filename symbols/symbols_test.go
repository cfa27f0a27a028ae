package symbols_test

import (
	"math/rand"
	"slices"
	"strings"
	"testing"

	"spinet/api"
	"spinet/symbols"
)

const (
	first = "ABCDEFGHIJKLMNOPQRSTUVWXYZabcdefghijklmnopqrstuvwxyz._"
	later = first + "0123456789"
)

func TestP41_1Right(t *testing.T) {
	if symbols.Most != 16 {
		t.Error("Most")
	}
	for b := range 256 {
		c := string([]byte{byte(b)})
		if got, want := symbols.Right(c), strings.Contains(first, c); got != want {
			t.Errorf("Right(%q): %v", c, got)
		}
		for _, s := range []string{"a" + c, "_" + c + "x", "Z23456789.12345" + c} {
			if got, want := symbols.Right(s), strings.Contains(later, c); got != want {
				t.Errorf("Right(%q): %v", s, got)
			}
		}
	}
	for n := range 40 {
		if got, want := symbols.Right(strings.Repeat("q", n)), n >= 1 && n <= 16; got != want {
			t.Errorf("%d signs: %v", n, got)
		}
	}
	for _, s := range []string{"", "1a", "a b", " a", "a ", "a:", "é", "aé", "a-b", "a\n", "a;", "$10", "@a", "[", "`", "{", "/", "a@", "a[", "a`", "a{", "a/", "a:"} {
		if symbols.Right(s) {
			t.Errorf("Right(%q)", s)
		}
	}
}

// sheet is names and addresses in a plain list.
type sheet struct {
	names []string
	at    []uint16
}

func (s *sheet) place(name string) int { return slices.Index(s.names, name) }

func (s *sheet) set(name string, at uint16) api.Errno {
	i := s.place(name)
	switch {
	case !symbols.Right(name):
		return api.ErrName
	case i < 0:
		s.names, s.at = append(s.names, name), append(s.at, at)
	case s.at[i] != at:
		return api.ErrTwice
	}
	return api.OK
}

func (s *sheet) drop(name string) bool {
	i := s.place(name)
	if i < 0 {
		return false
	}
	s.names, s.at = slices.Delete(s.names, i, i+1), slices.Delete(s.at, i, i+1)
	return true
}

func (s *sheet) sorted(right func(at uint16) bool) []string {
	var out []string
	for i, name := range s.names {
		if right(s.at[i]) {
			out = append(out, name)
		}
	}
	slices.Sort(out)
	return out
}

// near goes down from an address, one by one, up to one that has a name.
func (s *sheet) near(at uint16) (string, int, bool) {
	for d := 0; d <= int(at); d++ {
		if l := s.sorted(func(a uint16) bool { return a == at-uint16(d) }); len(l) > 0 {
			return l[0], d, true
		}
	}
	return "", 0, false
}

// check: does a table tell what the sheet does?
func check(t *testing.T, x *symbols.Table, s *sheet, at uint16) {
	t.Helper()
	if x.Len() != len(s.names) {
		t.Fatalf("Len: %d, not %d", x.Len(), len(s.names))
	}
	if got, want := x.Names(), s.sorted(func(uint16) bool { return true }); !slices.Equal(got, want) {
		t.Fatalf("Names: %q, not %q", got, want)
	}
	if got, want := x.At(at), s.sorted(func(a uint16) bool { return a == at }); !slices.Equal(got, want) {
		t.Fatalf("At(%d): %q, not %q", at, got, want)
	}
	name, d, ok := x.Near(at)
	if n, far, there := s.near(at); name != n || d != far || ok != there {
		t.Fatalf("Near(%d): %q, %d, %v, not %q, %d, %v", at, name, d, ok, n, far, there)
	}
}

func TestP41_1Sheet(t *testing.T) {
	r := rand.New(rand.NewSource(411))
	names := []string{"a", "b", "A", "B", "_", ".", "a1", "a.", "aa", "Aa", "abcdefghijklmnop", "z", "1", "", "abcdefghijklmnopq", "a b"}
	for range 200 {
		var x symbols.Table
		var s sheet
		wide := []int{3, 20, 300}[r.Intn(3)]
		for range 60 {
			name, at := names[r.Intn(len(names))], uint16(r.Intn(wide))
			switch r.Intn(4) {
			case 0:
				if got, want := x.Drop(name), s.drop(name); got != want {
					t.Fatalf("Drop(%q): %v", name, got)
				}
			case 1:
				got, ok := x.Get(name)
				i := s.place(name)
				if ok != (i >= 0) || ok && got != s.at[i] || !ok && got != 0 {
					t.Fatalf("Get(%q): %d, %v", name, got, ok)
				}
			default:
				if got, want := x.Set(name, at), s.set(name, at); got != want {
					t.Fatalf("Set(%q, %d): %v, not %v", name, at, got, want)
				}
			}
			check(t, &x, &s, uint16(r.Intn(wide+5)))
		}
	}
}

func TestP41_1Known(t *testing.T) {
	var x symbols.Table
	if x.Len() != 0 || len(x.Names()) != 0 || len(x.At(0)) != 0 || x.Drop("a") {
		t.Error("the zero table has something")
	}
	if name, d, ok := x.Near(65535); name != "" || d != 0 || ok {
		t.Error("Near of no names")
	}
	if at, ok := x.Get("a"); at != 0 || ok {
		t.Error("Get of no names")
	}
	if x.Set("a", 5) != api.OK || x.Set("a", 5) != api.OK || x.Len() != 1 {
		t.Error("the same name twice, for one address")
	}
	if name, d, ok := x.Near(7); name != "a" || d != 2 || !ok {
		t.Errorf("Near(7): %q, %d, %v", name, d, ok)
	}
	if _, _, ok := x.Near(4); ok {
		t.Error("Near(4)")
	}
	if x.Set("a", 6) != api.ErrTwice || x.Set("1", 5) != api.ErrName || x.Set("", 5) != api.ErrName {
		t.Error("errors of Set")
	}
	if at, ok := x.Get("a"); at != 5 || !ok || x.Len() != 1 {
		t.Error("a Set that answers an error has changed something")
	}
	x.Set("top", 65535)
	x.Set("b", 5)
	x.Set("B", 5)
	x.Set("nought", 0)
	if name, d, ok := x.Near(65535); name != "top" || d != 0 || !ok {
		t.Error("Near(65535)")
	}
	if name, d, ok := x.Near(65534); name != "B" || d != 65529 || !ok {
		t.Errorf("Near(65534): %q, %d, %v", name, d, ok)
	}
	if name, d, ok := x.Near(4); name != "nought" || d != 4 || !ok {
		t.Error("Near(4) with a name of 0")
	}
	if got := x.Names(); !slices.Equal(got, []string{"B", "a", "b", "nought", "top"}) {
		t.Errorf("Names: %q", got)
	}
	if got := x.At(5); !slices.Equal(got, []string{"B", "a", "b"}) {
		t.Errorf("At(5): %q", got)
	}
	if !x.Drop("a") || x.Drop("a") || x.Set("a", 9) != api.OK {
		t.Error("Drop")
	}
}

func TestP41_1NewMemory(t *testing.T) {
	var x symbols.Table
	x.Set("a", 1)
	x.Set("b", 1)
	x.Names()[0] = "z"
	x.At(1)[0] = "z"
	if !slices.Equal(x.Names(), []string{"a", "b"}) || !slices.Equal(x.At(1), []string{"a", "b"}) {
		t.Error("an answer isn't new memory")
	}
	var y symbols.Table
	if y.Len() != 0 {
		t.Error("two tables share their names")
	}
}

func TestP2Order(t *testing.T) {
	// A map goes through its keys in any order: the answers mustn't tell.
	var names []string
	for i := range 200 {
		names = append(names, string([]byte{'a' + byte(i%26), 'a' + byte(i/26)}))
	}
	var want []string
	for n := range 20 {
		var x symbols.Table
		for i := range names {
			x.Set(names[(i*7+n)%len(names)], uint16(i%3))
		}
		near, _, _ := x.Near(500)
		got := append(x.Names(), near)
		if n == 0 {
			want = got
		}
		if len(got) != len(want) || !slices.Equal(got[:200], want[:200]) || near != x.At(2)[0] {
			t.Fatal("another order")
		}
	}
}
