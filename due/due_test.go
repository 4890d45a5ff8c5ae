package due

import (
	"math"
	"math/rand"
	"slices"
	"testing"
)

// takeAll takes what is due by now.
func takeAll(q *Queue[string], now int64) []string {
	var taken []string
	for {
		what, ok := q.Take(now)
		if !ok {
			return taken
		}
		taken = append(taken, what)
	}
}

func TestEmpty(t *testing.T) {
	var q Queue[string]
	q.Drop("nobody")
	if what, ok := q.Take(math.MaxInt64); ok || what != "" {
		t.Errorf("an empty queue hands out %q", what)
	}
}

func TestNearestFirst(t *testing.T) {
	var q Queue[string]
	q.Put("late", 30, 0)
	q.Put("early", 10, 2)
	q.Put("middle", 20, 1)
	for _, step := range []struct {
		now  int64
		want []string
	}{
		{9, nil},
		{10, []string{"early"}},
		{10, nil},
		{29, []string{"middle"}},
		{31, []string{"late"}},
		{math.MaxInt64, nil},
	} {
		if got := takeAll(&q, step.now); !slices.Equal(got, step.want) {
			t.Errorf("by %d: %v, want %v", step.now, got, step.want)
		}
	}
}

func TestTurns(t *testing.T) {
	for _, names := range [][]string{{"a", "b", "c"}, {"c", "b", "a"}, {"b", "c", "a"}} {
		var q Queue[string]
		for _, name := range names {
			q.Put(name, 5, int(name[0]))
		}
		if got := takeAll(&q, 5); !slices.Equal(got, []string{"a", "b", "c"}) {
			t.Errorf("put as %v, taken as %v", names, got)
		}
	}
}

func TestPutAgainAndDrop(t *testing.T) {
	var q Queue[string]
	q.Put("a", 5, 0)
	q.Put("b", 6, 0)
	q.Put("a", 7, 0)
	if got := takeAll(&q, 6); !slices.Equal(got, []string{"b"}) {
		t.Errorf("by 6: %v", got)
	}
	q.Put("b", 7, 0)
	q.Drop("a")
	if got := takeAll(&q, 9); !slices.Equal(got, []string{"b"}) {
		t.Errorf("by 9: %v", got)
	}
}

// Many things, put, moved and dropped, come out in order and once.
func TestMany(t *testing.T) {
	r := rand.New(rand.NewSource(3))
	for range 200 {
		var q Queue[int]
		at := map[int]int64{}
		for range 100 {
			what := r.Intn(30)
			if r.Intn(4) == 0 {
				q.Drop(what)
				delete(at, what)
				continue
			}
			at[what] = int64(r.Intn(50) - 25)
			q.Put(what, at[what], what)
		}
		lastAt, last := int64(math.MinInt64), -1
		for range len(at) {
			what, ok := q.Take(25)
			when, there := at[what]
			if !ok || !there || when < lastAt || when == lastAt && what < last {
				t.Fatalf("%d at %d behind %d at %d", what, when, last, lastAt)
			}
			delete(at, what)
			lastAt, last = when, what
		}
		if what, ok := q.Take(math.MaxInt64); ok {
			t.Fatalf("%d is left over", what)
		}
	}
}
