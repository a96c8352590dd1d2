package order

import (
	"container/heap"

	"varve/api"
)

// line is a heap of commits: the one that is ahead of all others comes off it first.
type line []api.Commit

// lineOf tells a line of those commits that are not known.
func lineOf(l []api.Commit, isKnown func(api.Commit) bool) *line {
	q := &line{}
	for _, c := range l {
		if !isKnown(c) {
			heap.Push(q, c)
		}
	}
	return q
}

func (q *line) next() api.Commit { return heap.Pop(q).(api.Commit) }

func (q line) Len() int { return len(q) }

func (q line) Less(i, j int) bool { return Ahead(q[i], q[j]) }

func (q line) Swap(i, j int) { q[i], q[j] = q[j], q[i] }

func (q *line) Push(x any) { *q = append(*q, x.(api.Commit)) }

func (q *line) Pop() any {
	last := len(*q) - 1
	x := (*q)[last]
	*q = (*q)[:last]
	return x
}
