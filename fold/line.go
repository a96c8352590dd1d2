package fold

import (
	"cmp"
	"container/heap"

	"varve/api"
	"varve/dot"
)

// line is a heap off which events are taken, the least one first.
type line interface {
	heap.Interface
	next() api.Event
}

// place is an event, and where it stood: a heap by itself does not keep those in their order that are alike.
type place struct {
	event api.Event
	at    int
}

// places is the line that there is.
type places []place

// lineOf tells a line of events.
func lineOf(l []api.Event) line {
	q := make(places, 0, len(l))
	for i, e := range l {
		heap.Push(&q, place{e, i})
	}
	return &q
}

func (q *places) next() api.Event { return heap.Pop(q).(place).event }

func (q places) Len() int { return len(q) }

func (q places) Less(i, j int) bool { return compare(q[i], q[j]) < 0 }

func (q places) Swap(i, j int) { q[i], q[j] = q[j], q[i] }

func (q *places) Push(x any) { *q = append(*q, x.(place)) }

func (q *places) Pop() any {
	last := len(*q) - 1
	x := (*q)[last]
	*q = (*q)[:last]
	return x
}

// compare tells -1, or 1, as the first place is ahead of, or behind, the second one.
func compare(a, b place) int {
	return cmp.Or(cmp.Compare(a.event.Time, b.event.Time), dot.Compare(a.event.Dot, b.event.Dot), cmp.Compare(a.at, b.at))
}
