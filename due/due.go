// Package due keeps what is to come, and when, in a heap: the nearest stands on top.
package due

import "container/heap"

// Queue is a heap of what is due; a thing is in it once at most. The zero Queue is empty.
type Queue[T comparable] struct {
	waiting entries[T]
}

type entry[T comparable] struct {
	what T
	at   int64
	turn int
}

// Put has a thing due at a time, and at no other. Of those that are due at the same time the one with the lower turn comes first.
func (q *Queue[T]) Put(what T, at int64, turn int) {
	q.Drop(what)
	heap.Push(&q.waiting, entry[T]{what, at, turn})
}

// Drop has a thing due no more.
func (q *Queue[T]) Drop(what T) {
	for i, e := range q.waiting {
		if e.what == what {
			heap.Remove(&q.waiting, i)
			return
		}
	}
}

// Take takes out the nearest thing, if it is due by now.
func (q *Queue[T]) Take(now int64) (T, bool) {
	if len(q.waiting) == 0 || q.waiting[0].at > now {
		var none T
		return none, false
	}
	return heap.Pop(&q.waiting).(entry[T]).what, true
}

// entries is what container/heap keeps in order.
type entries[T comparable] []entry[T]

func (e entries[T]) Len() int { return len(e) }

func (e entries[T]) Less(i, j int) bool {
	if e[i].at != e[j].at {
		return e[i].at < e[j].at
	}
	return e[i].turn < e[j].turn
}

func (e entries[T]) Swap(i, j int) { e[i], e[j] = e[j], e[i] }

func (e *entries[T]) Push(x any) { *e = append(*e, x.(entry[T])) }

func (e *entries[T]) Pop() any {
	last := len(*e) - 1
	x := (*e)[last]
	*e = (*e)[:last]
	return x
}
