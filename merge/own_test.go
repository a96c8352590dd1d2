package merge

import (
	"slices"
	"testing"

	"varve/api"
	"varve/commit"
	"varve/dot"
	"varve/graph"
	"varve/tree"
)

// roomy tells a copy of a list, even of an empty one, with room behind it that is marked.
func roomy(l []api.Dot) []api.Dot {
	return append(slices.Clip(slices.Clone(l)), of(7, 77), of(7, 77))[:len(l)]
}

// whole tells whether a list that was handed in is as it was, and so is the room behind it.
func whole(h, l []api.Dot) bool {
	return slices.Equal(h[:len(l)+2], append(slices.Clone(l), of(7, 77), of(7, 77)))
}

// sameGraph tells whether two graphs tell the same.
func sameGraph(g, h *graph.Graph) bool {
	a, b := g.Base(), h.Base()
	return a.Num == b.Num && a.Time == b.Time && slices.Equal(a.F, b.F) && slices.Equal(a.Tips, b.Tips) && tree.Same(a.Tree, b.Tree) && slices.EqualFunc(g.Commits(), h.Commits(), commit.Same)
}

// spoil changes all that a tree has, and what lies behind its lists.
func spoil(x api.Tree) {
	for _, n := range x[:cap(x)] {
		for _, l := range n.Leaves[:cap(n.Leaves)] {
			clear(l.Items[:cap(l.Items)])
			clear(l.Tombs[:cap(l.Tombs)])
		}
		clear(n.Leaves[:cap(n.Leaves)])
		spoil(n.Below)
	}
	clear(x[:cap(x)])
}

// cells tells where the elements of a list lie.
func cells[T any](l []T) []any {
	var all []any
	for i := range l {
		all = append(all, &l[i])
	}
	return all
}

// memory tells where all elements of all lists of a tree lie.
func memory(x api.Tree) []any {
	all := cells(x)
	for _, n := range x {
		all = slices.Concat(all, cells(n.Leaves), memory(n.Below))
		for _, l := range n.Leaves {
			all = slices.Concat(all, cells(l.Items), cells(l.Tombs))
		}
	}
	return all
}

// typed tells a graph above a tree that has leaves of all types, with two beside each other that both drop and put.
func typed(t *testing.T) *graph.Graph {
	t.Helper()
	leaves := []api.Leaf{counter(7), register(2, of(9, 2), "old"), setOf("u", dotsIn(of(9, 1)), of(9, 3)), log(said(3, of(9, 1), "x"))}
	g := graphOf(t, treeOf(api.Node{Name: "a", Leaves: leaves, Below: treeOf(has("b", leaves...))}, has("c", leaves...)), of(9, 4))
	grow(t, g, of(0, 1), put("u", "a"), of(9, 4))
	grow(t, g, of(1, 1), say("y", "a", "b"), of(0, 1))
	grow(t, g, of(2, 1), drop(of(0, 1), of(9, 3)), of(0, 1))
	grow(t, g, of(3, 1), put("v", "d"), of(1, 1), of(2, 1))
	grow(t, g, of(4, 1), set("w", "c"), of(1, 1), of(2, 1))
	return g
}

// Rules: what is handed in is not changed, nor the room behind it; what is told is told anew each time, in memory of its own, and no two lists of it share any.
func TestOwn(t *testing.T) {
	for _, g := range []*graph.Graph{graphOf(t, nil), graphOf(t, sum(5), of(9, 1)), crossed(t), typed(t)} {
		was := g.Copy()
		var all []api.Dot
		for _, c := range g.Commits() {
			all = append(all, c.Dot)
		}
		lists := [][]api.Dot{nil, all, slices.Concat(all, all), {of(9, 1), of(0, 1)}}
		for i := range all {
			lists = append(lists, all[i:i+1], all[i:], append(slices.Clone(all[i:]), all[:i]...))
		}
		for _, l := range lists {
			h := roomy(l)
			calls := []func() (api.Tree, api.Errno){
				func() (api.Tree, api.Errno) { return State(g, h) },
				func() (api.Tree, api.Errno) { return Heads(g) },
				func() (api.Tree, api.Errno) { return Commit(g, append(l, api.Dot{})[0]) },
			}
			for _, f := range calls {
				x, e := f()
				want, e2 := f()
				where := map[any]int{}
				for _, p := range slices.Concat(memory(x), memory(want)) {
					if where[p]++; where[p] > 1 {
						t.Fatalf("%v: shared in %v", l, x)
					}
				}
				if e != e2 || !tree.Same(x, want) || !whole(h, l) || !sameGraph(g, was) {
					t.Fatalf("%v: changed: %v, %v", l, x, want)
				}
				spoil(x)
				if y, e := f(); e != e2 || !tree.Same(y, want) || !whole(h, l) || !sameGraph(g, was) {
					t.Fatalf("%v: changed by what was told: %v, %v", l, y, want)
				}
			}
		}
	}
}

// P1: ladders of two that always have both behind them end, though each one's virtual bases go down to the first ones.
func TestLadder(t *testing.T) {
	g := graphOf(t, sum(5), of(9, 1))
	var last []api.Dot
	for n := range uint64(100) {
		a, b := of(0, n+1), of(1, n+1)
		grow(t, g, a, add(1, "a"), last...)
		grow(t, g, b, add(1000, "a"), last...)
		last = dotsIn(a, b)
	}
	heads(t, g, sum(100105))
	state(t, g, sum(100105), last...)
	alone(t, g, sum(99105), of(0, 100))
}

// P1: a chain of as many commits as there may be ends.
func TestChain(t *testing.T) {
	g := graphOf(t, sum(5), of(9, 1))
	last := of(9, 1)
	for n := range uint64(200) {
		grow(t, g, of(0, n+1), add(1, "a"), last)
		last = of(0, n+1)
	}
	heads(t, g, sum(205))
	alone(t, g, sum(105), of(0, 100))
}

// P1, P14.3: wide graphs end, where each commit has as many parents as it may have, and long lists of dots do.
func TestMuch(t *testing.T) {
	g := graphOf(t, nil)
	var last, all []api.Dot
	for n := range 192 {
		if n%64 == 0 {
			last, all = slices.Clone(all), nil
		}
		d := at(uint8(n%64/4), uint32(n%4+1), uint64(n/64+1))
		grow(t, g, d, add(int64(n), "a"), last...)
		all = append(all, d)
	}
	heads(t, g, sum(191*192/2))
	state(t, g, sum(191*192/2), slices.Repeat(all, 4000)...)
	alone(t, g, sum(127*128/2+191), all[63])
	if x, e := State(g, append(slices.Repeat(all, 4000), of(0, 9))); e != api.ErrNone || x != nil {
		t.Error(x, e)
	}
}

// P1: commits that each have few others of many behind them end, though their bases are unlike again and again.
func TestWeave(t *testing.T) {
	for _, wide := range []int{3, 8, 16, 25, 40} {
		g := graphOf(t, nil)
		for n := range 200 {
			layer, i := n/wide, n%wide
			d := at(uint8(i%16), uint32(i/16+1), uint64(layer+1))
			if layer == 0 {
				grow(t, g, d, add(1, "a"))
				continue
			}
			before := func(j int) api.Dot { return at(uint8(j%wide%16), uint32(j%wide/16+1), uint64(layer)) }
			parents := dotsIn(before(i), before(i+layer), before(i+2*layer+1))
			slices.SortFunc(parents, dot.Compare)
			grow(t, g, d, add(1, "a"), slices.Compact(parents)...)
		}
		heads(t, g, sum(200))
	}
}
