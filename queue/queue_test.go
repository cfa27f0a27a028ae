package queue_test

import (
	"math/rand"
	"runtime"
	"slices"
	"testing"
	"weak"

	"spinet/queue"
)

// count: numbers from one on, so many.
func count(from, many int) []int {
	out := make([]int, 0, many)
	for i := range many {
		out = append(out, from+i)
	}
	return out
}

// check: has a queue just these things?
func check(t *testing.T, q *queue.Queue[int], want []int) {
	t.Helper()
	if got := q.All(); !slices.Equal(got, want) || q.Len() != len(want) {
		t.Fatalf("%v, of the length %d, not %v", got, q.Len(), want)
	}
	first, ok := q.Peek()
	if ok != (len(want) > 0) || ok && first != want[0] || !ok && first != 0 {
		t.Fatalf("Peek: %d, %v, of %v", first, ok, want)
	}
}

func TestP21_1Most(t *testing.T) {
	if queue.Most != 24 {
		t.Errorf("Most is %d", queue.Most)
	}
}

func TestP21_1Of(t *testing.T) {
	for n := range 60 {
		q, ok := queue.Of(count(1, n)...)
		if n > 24 {
			if q != nil || ok {
				t.Errorf("Of %d things: %v, %v", n, q, ok)
			}
			continue
		}
		if q == nil || !ok {
			t.Fatalf("Of %d things: %v", n, ok)
		}
		check(t, q, count(1, n))
	}
	if q, ok := queue.Of(make([]string, 100000)...); q != nil || ok {
		t.Errorf("Of 100000 things: %v", ok)
	}
	if q, ok := queue.Of([]string(nil)...); !ok || q.Len() != 0 {
		t.Errorf("Of a nil list: %v", ok)
	}
}

func TestP21_1ZeroQueue(t *testing.T) {
	var q queue.Queue[int]
	check(t, &q, nil)
	if n, ok := q.Pop(); n != 0 || ok {
		t.Errorf("Pop: %d, %v", n, ok)
	}
	check(t, &q, nil)
	q.Clear()
	check(t, &q, nil)
	if !q.Push() || !q.Front() {
		t.Error("nothing couldn't be put into it")
	}
	check(t, &q, nil)
	if !q.Front(5) {
		t.Error("Front")
	}
	check(t, &q, []int{5})
}

func TestP21_1PushFront(t *testing.T) {
	q, _ := queue.Of[int]()
	if !q.Push(3) || !q.Front(1, 2) {
		t.Fatal("Push, Front")
	}
	check(t, q, []int{1, 2, 3})
	if !q.Push(4, 5) || !q.Front(0) || !q.Front(-3, -2, -1) {
		t.Fatal("Push, Front")
	}
	check(t, q, count(-3, 9))
}

// With any many things there, just as many more go in as there is room for.
func TestP21_1Limit(t *testing.T) {
	for there := range 25 {
		for more := range 30 {
			q, _ := queue.Of(count(100, there)...)
			want := count(100, there)
			fits := there+more <= 24
			if fits {
				want = count(100, there+more)
			}
			if ok := q.Push(count(100+there, more)...); ok != fits {
				t.Fatalf("Push of %d to %d: %v", more, there, ok)
			}
			check(t, q, want)

			q, _ = queue.Of(count(100, there)...)
			want = count(100, there)
			if fits {
				want = count(100-more, there+more)
			}
			if ok := q.Front(count(100-more, more)...); ok != fits {
				t.Fatalf("Front of %d to %d: %v", more, there, ok)
			}
			check(t, q, want)
		}
	}
}

func TestP21_1Pop(t *testing.T) {
	q, _ := queue.Of(count(1, 24)...)
	for n := 1; n <= 24; n++ {
		for range 2 {
			if got, ok := q.Peek(); got != n || !ok {
				t.Fatalf("Peek: %d, %v, not %d", got, ok, n)
			}
		}
		if got, ok := q.Pop(); got != n || !ok {
			t.Fatalf("Pop: %d, %v, not %d", got, ok, n)
		}
		check(t, q, count(n+1, 24-n))
	}
	for range 3 {
		if got, ok := q.Pop(); got != 0 || ok {
			t.Errorf("Pop of none: %d, %v", got, ok)
		}
	}
	check(t, q, nil)
}

func TestP21_1Clear(t *testing.T) {
	for n := range 25 {
		q, _ := queue.Of(count(1, n)...)
		q.Pop()
		q.Clear()
		check(t, q, nil)
		if got, ok := q.Pop(); got != 0 || ok {
			t.Fatalf("Pop of none: %d, %v", got, ok)
		}
		if !q.Push(count(7, 24)...) || q.Push(1) || q.Front(1) {
			t.Fatal("there isn't just the room for all")
		}
		check(t, q, count(7, 24))
	}
}

// Any calls, held against a list that grows and shrinks.
func TestP21_1AnyCalls(t *testing.T) {
	r := rand.New(rand.NewSource(21))
	q, _ := queue.Of[int]()
	var want []int
	for n := range 200000 {
		l := count(n, r.Intn(6))
		fits := len(want)+len(l) <= 24
		switch r.Intn(9) {
		case 0, 1, 2:
			if q.Push(l...) != fits {
				t.Fatalf("Push of %d to %d", len(l), len(want))
			}
			if fits {
				want = slices.Concat(want, l)
			}
		case 3, 4:
			if q.Front(l...) != fits {
				t.Fatalf("Front of %d to %d", len(l), len(want))
			}
			if fits {
				want = slices.Concat(l, want)
			}
		case 5, 6, 7:
			for range len(l) {
				got, ok := q.Pop()
				if ok != (len(want) > 0) || ok && got != want[0] || !ok && got != 0 {
					t.Fatalf("Pop: %d, %v, of %v", got, ok, want)
				}
				if ok {
					want = want[1:]
				}
			}
		case 8:
			if r.Intn(20) == 0 {
				q.Clear()
				want = nil
			}
		}
		check(t, q, want)
	}
}

// step is a thing of several parts.
type step struct {
	name string
	busy bool
}

func TestP21_1OtherThings(t *testing.T) {
	q, ok := queue.Of(step{"a", true}, step{"b", false})
	if !ok || !q.Front(step{"c", true}) {
		t.Fatal("Of, Front")
	}
	if got := q.All(); !slices.Equal(got, []step{{"c", true}, {"a", true}, {"b", false}}) {
		t.Errorf("All: %v", got)
	}
	if got, ok := q.Pop(); got != (step{"c", true}) || !ok {
		t.Errorf("Pop: %v, %v", got, ok)
	}
	var none queue.Queue[*int]
	if got, ok := none.Peek(); got != nil || ok {
		t.Errorf("Peek: %v, %v", got, ok)
	}
	n := 5
	if !none.Push(nil, &n) {
		t.Error("Push")
	}
	if got, ok := none.Pop(); got != nil || !ok {
		t.Errorf("Pop: %v, %v", got, ok)
	}
	if got, ok := none.Pop(); got != &n || !ok {
		t.Errorf("Pop: %v, %v", got, ok)
	}
	var empty queue.Queue[struct{}]
	if !empty.Push(make([]struct{}, 24)...) || empty.Push(struct{}{}) || empty.Len() != 24 || len(empty.All()) != 24 {
		t.Errorf("%d things without a size", empty.Len())
	}
}

// What is handed in isn't kept or changed, and what is answered is new memory (rule 5 of DOC.md); one queue isn't another one (P2).
func TestP2NewMemory(t *testing.T) {
	l := []int{1, 2, 3}
	q, _ := queue.Of(l...)
	l[0] = 9
	check(t, q, []int{1, 2, 3})
	for _, put := range []func(...int) bool{q.Push, q.Front} {
		l = []int{4, 5}
		if !put(l...) || !slices.Equal(l, []int{4, 5}) {
			t.Errorf("what was handed in: %v", l)
		}
		clear(l)
	}
	want := []int{4, 5, 1, 2, 3, 4, 5}
	check(t, q, want)
	all := q.All()
	clear(all[:cap(all)])
	check(t, q, want)

	other, _ := queue.Of(want...)
	copied := *other
	other.Pop()
	other.Clear()
	check(t, q, want)
	check(t, &copied, want)
}

// big is a thing that has memory of its own.
type big struct{ room [1000]byte }

// What has gone isn't kept (rule 8 of LANGUAGE.md: no more than the promises need).
func TestP21_1GoneIsFree(t *testing.T) {
	for name, drop := range map[string]func(*queue.Queue[*big]){
		"Pop":   func(q *queue.Queue[*big]) { q.Pop(); q.Pop() },
		"Clear": (*queue.Queue[*big]).Clear,
	} {
		var q queue.Queue[*big]
		var gone []weak.Pointer[big]
		for _, put := range []func(...*big) bool{q.Push, q.Front} {
			b := &big{}
			gone = append(gone, weak.Make(b))
			put(b)
		}
		drop(&q)
		runtime.GC()
		for _, w := range gone {
			if w.Value() != nil {
				t.Errorf("what has gone by %s is kept", name)
			}
		}
		runtime.KeepAlive(&q)
	}
}
