package graph

import (
	"slices"
	"testing"

	"varve/api"
	"varve/commit"
	"varve/leaf"
	"varve/tree"
)

// roomy tells a copy of a list, even of an empty one, with room behind it that is marked.
func roomy[T any](l []T, mark T) []T {
	return append(slices.Clip(slices.Clone(l)), mark, mark)[:len(l)]
}

// isRoom tells whether the room behind a list is as it was marked.
func isRoom[T any](l []T, is func(T) bool) bool {
	room := l[len(l) : len(l)+2]
	return is(room[0]) && is(room[1])
}

func isMark(d api.Dot) bool { return d == one(99) }

// handed tells a copy of a commit whose lists have room behind them.
func handed(c api.Commit) api.Commit {
	c.Parents, c.VV, c.Op.Dots = roomy(c.Parents, one(99)), roomy(c.VV, one(99)), roomy(c.Op.Dots, one(99))
	c.Op.Path = roomy(c.Op.Path, "mark")
	return c
}

// whole tells whether a commit that was handed in is as it was, and so is the room behind its lists.
func whole(h, c api.Commit) bool {
	return commit.Same(h, c) && slices.Equal(h.VV, c.VV) && isRoom(h.Parents, isMark) && isRoom(h.VV, isMark) && isRoom(h.Op.Dots, isMark) && isRoom(h.Op.Path, func(s string) bool { return s == "mark" })
}

// spoil changes all that is in a commit's lists.
func spoil(c api.Commit) {
	clear(c.Parents)
	clear(c.VV)
	clear(c.Op.Path)
	clear(c.Op.Dots)
}

func markNode() api.Node { return api.Node{Name: "mark"} }

// handedTree tells a copy of a tree, at most so many names deep, whose lists, even empty ones, have room behind them.
func handedTree(t api.Tree, most int) api.Tree {
	if most == 0 {
		return t
	}
	h := roomy(t, markNode())
	for i, n := range h {
		h[i].Leaves, h[i].Below = roomy(n.Leaves, api.Leaf{Text: "mark"}), handedTree(n.Below, most-1)
		for j, l := range h[i].Leaves {
			h[i].Leaves[j].Items, h[i].Leaves[j].Tombs = roomy(l.Items, api.Item{Text: "mark"}), roomy(l.Tombs, one(99))
		}
	}
	return h
}

// wholeTree tells whether the room behind all lists of a tree that was handed in is as it was.
func wholeTree(h api.Tree, most int) bool {
	if most == 0 {
		return true
	}
	ok := isRoom(h, func(n api.Node) bool { return tree.Same(api.Tree{n}, api.Tree{markNode()}) })
	for _, n := range h {
		ok = ok && wholeTree(n.Below, most-1) && isRoom(n.Leaves, func(l api.Leaf) bool { return leaf.Same(l, api.Leaf{Text: "mark"}) })
		for _, l := range n.Leaves {
			ok = ok && isRoom(l.Items, func(i api.Item) bool { return i == api.Item{Text: "mark"} }) && isRoom(l.Tombs, isMark)
		}
	}
	return ok
}

// handedBase tells a copy of a baseline whose lists have room behind them.
func handedBase(b api.Base) api.Base {
	b.F, b.Tips, b.Tree = roomy(b.F, one(99)), roomy(b.Tips, one(99)), handedTree(b.Tree, 4)
	return b
}

// wholeBase tells whether a baseline that was handed in is as it was, and so is the room behind its lists.
func wholeBase(h, b api.Base) bool {
	return sameBase(h, b) && isRoom(h.F, isMark) && isRoom(h.Tips, isMark) && wholeTree(h.Tree, 4)
}

// spoilBase changes all that is in a baseline's lists.
func spoilBase(b api.Base) {
	clear(b.F)
	clear(b.Tips)
	spoilTree(b.Tree)
}

func spoilTree(t api.Tree) {
	for _, n := range t {
		spoilTree(n.Below)
		for _, l := range n.Leaves {
			clear(l.Items)
			clear(l.Tombs)
		}
		clear(n.Leaves)
	}
	clear(t)
}

// cells tells where all elements of a list lie, its room's too.
func cells[T any](l []T) []any {
	var all []any
	for i := range l[:cap(l)] {
		all = append(all, &l[:cap(l)][i])
	}
	return all
}

// memory tells where all elements of all lists of commits lie.
func memory(l ...api.Commit) []any {
	all := cells(l)
	for _, c := range l {
		all = slices.Concat(all, cells(c.Parents), cells(c.VV), cells(c.Op.Path), cells(c.Op.Dots))
	}
	return all
}

// memoryOfTree tells where all elements of all lists of a tree lie.
func memoryOfTree(t api.Tree) []any {
	all := cells(t)
	for _, n := range t {
		all = slices.Concat(all, cells(n.Leaves), memoryOfTree(n.Below))
		for _, l := range n.Leaves {
			all = slices.Concat(all, cells(l.Items), cells(l.Tombs))
		}
	}
	return all
}

// memoryOfBase tells where all elements of all lists of a baseline lie.
func memoryOfBase(b api.Base) []any {
	return slices.Concat(cells(b.F), cells(b.Tips), memoryOfTree(b.Tree))
}

// memoryOf tells where all elements of all that a graph tells lie.
func memoryOf(g *Graph) []any {
	all := slices.Concat(memoryOfBase(g.Base()), memory(g.Commits()...), cells(g.Heads()), cells(g.VV()))
	for _, c := range g.Commits() {
		got, _ := g.Get(c.Dot)
		all = append(all, memory(got)...)
	}
	return all
}

// inner tells where all elements of all lists lie that a graph keeps.
func inner(g *Graph) []any {
	all := memoryOfBase(g.base)
	for _, c := range g.there {
		all = append(all, memory(c)...)
	}
	return all
}

// isOwn tells whether what is told lies nowhere twice, and nowhere where the others lie.
func isOwn(told []any, others ...[]any) bool {
	count := map[any]int{}
	for _, p := range slices.Concat(append(others, told)...) {
		count[p]++
	}
	return !slices.ContainsFunc(told, func(p any) bool { return count[p] > 1 })
}

// drop tells a commit with something in each of its lists, that can stand on the good baseline.
func drop() api.Commit {
	c := did(one(3), 9, api.Vector{one(3), two(1)}, one(2), two(1))
	c.Op = api.Op{Kind: api.OpDrop, Path: []string{"a", "b"}, Text: "u", Dots: dotsIn(one(1), two(1))}
	return c
}

// Rules: what is handed in is not changed, neither in it nor in the room behind it.
func TestHandedIn(t *testing.T) {
	wrong := wrongBases()
	// The last ones' trees are below themselves: these can't be held against anything.
	for _, b := range slices.Concat(rightBases(), wrong[:len(wrong)-2]) {
		h := handedBase(b)
		if MayBase(h); !wholeBase(h, b) {
			t.Fatalf("changed: %v", b)
		}
		if New(h); !wholeBase(h, b) {
			t.Fatalf("changed: %v", b)
		}
	}
	for _, c := range []api.Commit{
		{}, drop(), did(one(4), 9, api.Vector{one(4)}, one(3)), did(at(4, 1, 1), 1, api.Vector{at(4, 1, 1), at(5, 1, 1)}),
		did(at(3, 1, 2), 9, api.Vector{at(3, 1, 2)}), did(one(5), 8, api.Vector{one(5), two(2), three(3)}, one(3), one(4)), did(one(5), 8, api.Vector{one(5), two(2), three(3)}, one(4)),
	} {
		for _, g := range []*Graph{nil, {}, some(t), graphOf(t, goodBase()), graphOf(t, goodBase(), drop())} {
			h := handed(c)
			if e := g.Insert(h); !whole(h, c) {
				t.Fatalf("changed: %v, %d", c, e)
			}
			g.Get(c.Dot)
			g.Has(c.Dot)
		}
	}
}

// Rules: what is handed in is not kept: neither what it was, nor what becomes of it.
func TestNotKept(t *testing.T) {
	b, c := handedBase(goodBase()), handed(drop())
	g := graphOf(t, b, c)
	if !isOwn(inner(g), memoryOfBase(b), memory(c)) {
		t.Error("kept")
	}
	spoilBase(b)
	spoil(c)
	if !same(g, graphOf(t, goodBase(), drop())) {
		t.Error("changed by what was handed in")
	}
}

// Rules: what is told has memory of its own, and no two lists of it share any; it is told again as it was, whatever becomes of it.
func TestTold(t *testing.T) {
	for _, g := range []*Graph{some(t), graphOf(t, goodBase()), graphOf(t, goodBase(), drop()), graphOf(t, rightBases()[10])} {
		was := g.Copy()
		if !isOwn(memoryOf(g), memoryOf(g), inner(g), inner(was), memoryOf(was)) || !isOwn(inner(g), inner(was)) {
			t.Error("not its own")
		}
		for _, c := range g.Commits() {
			got, _ := g.Get(c.Dot)
			spoil(c)
			spoil(got)
		}
		clear(g.Commits())
		clear(g.Heads())
		clear(g.VV())
		spoilBase(g.Base())
		if !same(g, was) {
			t.Error("changed by what was told")
		}
	}
}
