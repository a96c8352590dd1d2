package order

import (
	"slices"
	"testing"

	"varve/api"
	"varve/commit"
	"varve/graph"
)

// roomy tells a copy of a list, even of an empty one, with room behind it that is marked.
func roomy(l []api.Dot) []api.Dot {
	return append(slices.Clip(slices.Clone(l)), of(7, 77), of(7, 77))[:len(l)]
}

// whole tells whether a list that was handed in is as it was, and so is the room behind it.
func whole(h, l []api.Dot) bool {
	return slices.Equal(h[:len(l)+2], append(slices.Clone(l), of(7, 77), of(7, 77)))
}

// sameGraph tells whether two graphs tell the same.
func sameGraph(g, h *graph.Graph) bool {
	a, b := g.Base(), h.Base()
	return slices.Equal(a.F, b.F) && slices.Equal(a.Tips, b.Tips) && slices.EqualFunc(g.Commits(), h.Commits(), commit.Same)
}

// cells tells where all elements of a list lie, its room's too.
func cells[T any](l []T) []any {
	var all []any
	for i := range l[:cap(l)] {
		all = append(all, &l[:cap(l)][i])
	}
	return all
}

// memory tells where all elements of all lists of commits lie.
func memory(l []api.Commit) []any {
	all := cells(l)
	for _, c := range l {
		all = slices.Concat(all, cells(c.Parents), cells(c.VV), cells(c.Op.Path), cells(c.Op.Dots))
	}
	return all
}

// isOwn tells whether what is told lies nowhere twice, and nowhere where the others lie.
func isOwn(told []any, others ...[]any) bool {
	count := map[any]int{}
	for _, p := range slices.Concat(append(others, told)...) {
		count[p]++
	}
	return !slices.ContainsFunc(told, func(p any) bool { return count[p] > 1 })
}

// spoil changes all that commits have, and what lies behind their list.
func spoil(l []api.Commit) {
	for _, c := range l {
		clear(c.Parents[:cap(c.Parents)])
		clear(c.VV[:cap(c.VV)])
		clear(c.Op.Path[:cap(c.Op.Path)])
		clear(c.Op.Dots[:cap(c.Op.Dots)])
	}
	clear(l[:cap(l)])
}

// dropped tells the graph of some, with one more commit that has something in each of its lists.
func dropped(t *testing.T) *graph.Graph {
	t.Helper()
	g := some(t)
	c := api.Commit{Dot: of(2, 2), Parents: dotsIn(of(0, 3), of(2, 1)), VV: vector(of(0, 3), of(2, 2), of(9, 2)), Time: 11}
	c.Op = api.Op{Kind: api.OpDrop, Path: []string{"a", "b"}, Text: "u", Dots: dotsIn(of(0, 1), of(2, 1))}
	if e := g.Insert(c); e != api.OK {
		t.Fatal(e)
	}
	return g
}

// P15.1, Rules: what is handed in is not changed, nor the room behind it; each commit that is told is in memory of its own, each time anew.
func TestOwn(t *testing.T) {
	g := dropped(t)
	was := g.Copy()
	for _, v := range []api.Vector{nil, {}, {of(0, 1)}, {of(1, 3), of(0, 2), {}, of(0, 1), of(1, 3)}, {of(9, 3), of(0, 1<<20+1)}, g.VV()} {
		for _, most := range []int{-1, 0, 1, 4, 10, 99} {
			h := roomy(v)
			first, next := Lacks(g, h, most), Lacks(g, h, most)
			if !whole(h, v) || !sameGraph(g, was) {
				t.Fatalf("changed: %v, %d", v, most)
			}
			if !isOwn(memory(first), memory(next), cells(h)) {
				t.Fatalf("not its own: %v, %d", v, most)
			}
			spoil(first)
			if !whole(h, v) || !sameGraph(g, was) || !slices.EqualFunc(next, Lacks(was, v, most), commit.Same) {
				t.Fatalf("changed by what was told: %v, %d", v, most)
			}
		}
	}
}

// P15.1, Rules: what was told stays as it is, whatever becomes of the vector and the graph.
func TestStays(t *testing.T) {
	g := some(t)
	v := vector(of(0, 1), of(1, 1))
	l := Lacks(g, v, 4)
	clear(v)
	grow(t, g, of(3, 1), 1)
	for i, d := range dotsIn(of(9, 3), of(0, 2), of(0, 3), of(1, 2)) {
		if c, _ := g.Get(d); !commit.Same(l[i], c) {
			t.Error(i, l[i], c)
		}
	}
	lacks(t, g, vector(of(0, 1), of(1, 1)), 4, of(3, 1), of(9, 3), of(0, 2), of(0, 3))
}

// P15.1, Rules: the commits that are asked what is ahead are not changed.
func TestAheadOwn(t *testing.T) {
	l := Lacks(dropped(t), nil, 99)
	was := Lacks(dropped(t), nil, 99)
	for i, a := range l {
		for j, b := range l {
			if Ahead(a, b) != (i < j) {
				t.Error(a, b)
			}
		}
	}
	if !slices.EqualFunc(l, was, commit.Same) {
		t.Error(l)
	}
}
