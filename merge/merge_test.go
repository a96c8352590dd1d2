package merge

import (
	"slices"
	"testing"

	"varve/api"
	"varve/dot"
	"varve/graph"
	"varve/tree"
)

// at tells the dot of these numbers.
func at(rep uint8, inc uint32, seq uint64) api.Dot {
	return api.Dot{Actor: api.Actor{Rep: rep, Inc: inc}, Seq: seq}
}

// of tells the n-th dot of a replica's first life.
func of(rep uint8, n uint64) api.Dot { return at(rep, 1, n) }

func dotsIn(l ...api.Dot) []api.Dot { return l }

func add(n int64, p ...string) api.Op { return api.Op{Kind: api.OpAdd, N: n, Path: p} }

func set(s string, p ...string) api.Op { return api.Op{Kind: api.OpSet, Text: s, Path: p} }

func put(s string, p ...string) api.Op { return api.Op{Kind: api.OpPut, Text: s, Path: p} }

func say(s string, p ...string) api.Op { return api.Op{Kind: api.OpSay, Text: s, Path: p} }

// drop tells an operation that drops the text u of some dots from the set at a.
func drop(dots ...api.Dot) api.Op {
	return api.Op{Kind: api.OpDrop, Text: "u", Path: []string{"a"}, Dots: dots}
}

func counter(n int64) api.Leaf { return api.Leaf{Type: api.Counter, N: n} }

func register(time uint64, d api.Dot, s string) api.Leaf {
	return api.Leaf{Type: api.Register, Time: time, Dot: d, Text: s}
}

// setOf tells a set of one text, that is there by some dots, and of tombs.
func setOf(s string, tombs []api.Dot, dots ...api.Dot) api.Leaf {
	l := api.Leaf{Type: api.Set, Tombs: tombs}
	for _, d := range dots {
		l.Items = append(l.Items, api.Item{Dot: d, Text: s})
	}
	return l
}

// said tells a log's item.
func said(time uint64, d api.Dot, s string) api.Item {
	return api.Item{Time: time, Dot: d, Text: s}
}

func log(items ...api.Item) api.Leaf { return api.Leaf{Type: api.Log, Items: items} }

// has tells a node of a name and leaves, and nothing below.
func has(name string, l ...api.Leaf) api.Node { return api.Node{Name: name, Leaves: l} }

func treeOf(l ...api.Node) api.Tree { return l }

// sum tells the tree of a counter at a.
func sum(n int64) api.Tree { return treeOf(has("a", counter(n))) }

// graphOf tells the graph of a baseline of a tree and that F, whose tips are all its dots.
func graphOf(t *testing.T, x api.Tree, f ...api.Dot) *graph.Graph {
	t.Helper()
	b := api.Base{F: f, Tips: f, Tree: x}
	if len(f) > 0 {
		b.Num, b.Time = 7, 3
	}
	g, e := graph.New(b)
	if e != api.OK {
		t.Fatalf("New(%v): %d", b, e)
	}
	return g
}

// grow puts a commit of a dot into a graph, on parents, with the least history and time that it can have.
func grow(t *testing.T, g *graph.Graph, d api.Dot, o api.Op, parents ...api.Dot) {
	t.Helper()
	c := api.Commit{Dot: d, Parents: parents, Time: 1, Op: o}
	all := append(slices.Clone(parents), d)
	for _, p := range parents {
		x, _ := g.Get(p)
		all = append(all, x.VV...)
		c.Time = max(c.Time, x.Time+1)
	}
	c.VV = dot.Canon(all)
	if e := g.Insert(c); e != api.OK {
		t.Fatalf("Insert(%v): %d", c, e)
	}
}

// tells checks that a tree is told, that may be.
func tells(t *testing.T, name string, want, got api.Tree, e api.Errno) {
	t.Helper()
	if e != api.OK || !tree.May(got) || !tree.Same(got, want) {
		t.Errorf("%s: %v, %d, not %v", name, got, e, want)
	}
}

// state checks the merged state of some commits.
func state(t *testing.T, g *graph.Graph, want api.Tree, dots ...api.Dot) {
	t.Helper()
	x, e := State(g, dots)
	tells(t, "State", want, x, e)
}

// heads checks the merged state of the heads.
func heads(t *testing.T, g *graph.Graph, want api.Tree) {
	t.Helper()
	x, e := Heads(g)
	tells(t, "Heads", want, x, e)
}

// alone checks the state of a commit.
func alone(t *testing.T, g *graph.Graph, want api.Tree, d api.Dot) {
	t.Helper()
	x, e := Commit(g, d)
	tells(t, "Commit", want, x, e)
}

// P14.2: the document's examples.
func TestExamples(t *testing.T) {
	g := graphOf(t, nil)
	grow(t, g, of(0, 1), add(5, "a"))
	grow(t, g, of(0, 2), add(3, "a"), of(0, 1))
	grow(t, g, of(1, 1), add(4, "a"), of(0, 1))
	heads(t, g, sum(12))
	g = graphOf(t, nil)
	grow(t, g, of(0, 1), put("u", "a"))
	grow(t, g, of(0, 2), drop(of(0, 1)), of(0, 1))
	grow(t, g, of(1, 1), put("u", "a"), of(0, 1))
	heads(t, g, treeOf(has("a", setOf("u", dotsIn(of(0, 1)), of(1, 1)))))
}

// crossed tells a graph above a counter of 1000 at a and within it 9.1.2: two commits that share nothing, two that each have both behind them, one on each of these, and one on the first of all.
func crossed(t *testing.T) *graph.Graph {
	t.Helper()
	g := graphOf(t, sum(1000), of(9, 2))
	grow(t, g, of(0, 1), add(1, "a"), of(9, 1))
	grow(t, g, of(1, 1), add(2, "a"))
	grow(t, g, of(2, 1), add(4, "a"), of(0, 1), of(1, 1))
	grow(t, g, of(3, 1), add(8, "a"), of(0, 1), of(1, 1))
	grow(t, g, of(2, 2), add(16, "a"), of(2, 1))
	grow(t, g, of(3, 2), add(32, "a"), of(3, 1))
	grow(t, g, of(4, 1), add(64, "a"), of(0, 1), of(9, 2))
	return g
}

// P14.1, P14.3: the merged state of some commits has all that any of them has behind it, each once, whatever their bases are.
func TestState(t *testing.T) {
	g := crossed(t)
	for _, x := range []struct {
		n    int64
		dots []api.Dot
	}{
		// Of none: the baseline's tree.
		{0, nil},
		{0, dotsIn()},
		// Of one: its own state.
		{1, dotsIn(of(0, 1))},
		{2, dotsIn(of(1, 1))},
		{1 + 2 + 4, dotsIn(of(2, 1))},
		{1 + 2 + 8 + 32, dotsIn(of(3, 2))},
		{1 + 64, dotsIn(of(4, 1))},
		// Of two over no base, one base, and two bases, whose merged state is a virtual one.
		{1 + 2, dotsIn(of(0, 1), of(1, 1))},
		{2 + 1 + 64, dotsIn(of(1, 1), of(4, 1))},
		{1 + 2 + 4 + 64, dotsIn(of(2, 1), of(4, 1))},
		{1 + 2 + 4 + 8, dotsIn(of(2, 1), of(3, 1))},
		{1 + 2 + 4 + 8 + 16 + 32, dotsIn(of(2, 2), of(3, 2))},
		// Of one that is behind another one: what the other one has.
		{1 + 2 + 4, dotsIn(of(0, 1), of(2, 1))},
		{1 + 2 + 4 + 16, dotsIn(of(1, 1), of(2, 2))},
		{1 + 2 + 4 + 16, dotsIn(of(2, 1), of(2, 2))},
		{1 + 64, dotsIn(of(0, 1), of(4, 1))},
		// Of more, some behind others.
		{1 + 2 + 4 + 8 + 64, dotsIn(of(2, 1), of(3, 1), of(4, 1))},
		{1 + 2 + 4 + 8 + 16 + 32 + 64, dotsIn(of(2, 2), of(3, 2), of(4, 1))},
		{1 + 2 + 4 + 8 + 16 + 64, dotsIn(of(0, 1), of(2, 2), of(3, 1), of(4, 1))},
		{1 + 2 + 4 + 8 + 16 + 32 + 64, dotsIn(of(0, 1), of(1, 1), of(2, 1), of(2, 2), of(3, 1), of(3, 2), of(4, 1))},
	} {
		state(t, g, sum(1000+x.n), x.dots...)
		// It hangs on no order, and each counts once.
		back := slices.Clone(x.dots)
		slices.Reverse(back)
		state(t, g, sum(1000+x.n), back...)
		state(t, g, sum(1000+x.n), slices.Concat(x.dots, back, x.dots)...)
	}
	heads(t, g, sum(1000+1+2+4+8+16+32+64))
}

// P14.1: the state of a commit is that of its parents that are there, and its event.
func TestCommit(t *testing.T) {
	g := crossed(t)
	alone(t, g, sum(1001), of(0, 1))
	alone(t, g, sum(1002), of(1, 1))
	alone(t, g, sum(1007), of(2, 1))
	alone(t, g, sum(1023), of(2, 2))
	alone(t, g, sum(1043), of(3, 2))
	alone(t, g, sum(1065), of(4, 1))
	grow(t, g, of(5, 1), add(-1, "b"), of(2, 2), of(3, 2), of(9, 2))
	alone(t, g, treeOf(has("a", counter(1063)), has("b", counter(-1))), of(5, 1))
}

// P14.2: heads whose commits are there, and not the tips; the baseline's tree, if none are.
func TestHeads(t *testing.T) {
	heads(t, graphOf(t, nil), nil)
	heads(t, graphOf(t, sum(5)), sum(5))
	g := graphOf(t, sum(5), of(8, 1), of(9, 1))
	heads(t, g, sum(5))
	grow(t, g, of(0, 1), add(1, "a"), of(9, 1))
	if len(g.Heads()) != 2 {
		t.Fatal(g.Heads())
	}
	heads(t, g, sum(6))
	grow(t, g, of(0, 2), add(2, "a"), of(0, 1))
	heads(t, g, sum(8))
	grow(t, g, of(9, 2), add(4, "a"), of(9, 1))
	heads(t, g, sum(12))
	grow(t, g, of(8, 2), add(8, "a"), of(8, 1))
	heads(t, g, sum(20))
}

// P14.1, P14.3: all types of leaves are merged, over a baseline that has some of them.
func TestTypes(t *testing.T) {
	below := has("a", log(said(3, of(9, 1), "x")))
	ground := treeOf(api.Node{Name: "a", Leaves: []api.Leaf{counter(7), register(2, of(9, 2), "old"), setOf("u", nil, of(9, 3))}, Below: treeOf(below)})
	g := graphOf(t, ground, of(9, 4))
	grow(t, g, of(0, 1), put("u", "a"), of(9, 4))
	grow(t, g, of(1, 1), set("new", "a"), of(9, 4))
	grow(t, g, of(2, 1), drop(of(0, 1), of(9, 3)), of(0, 1))
	grow(t, g, of(3, 1), put("u", "a"), of(0, 1), of(1, 1))
	grow(t, g, of(4, 1), say("y", "a", "a"), of(1, 1))
	grow(t, g, of(2, 2), add(-9, "a"), of(2, 1))
	grow(t, g, of(1, 2), set("newer", "a"), of(1, 1))
	grow(t, g, of(5, 1), set("newest", "a"), of(1, 1))
	grow(t, g, of(6, 1), say("z", "b"))
	for _, x := range []struct {
		dots []api.Dot
		at   []api.Leaf
		log  api.Leaf
	}{
		{dotsIn(of(0, 1)), []api.Leaf{counter(7), register(2, of(9, 2), "old"), setOf("u", nil, of(0, 1), of(9, 3))}, below.Leaves[0]},
		{dotsIn(of(2, 1)), []api.Leaf{counter(7), register(2, of(9, 2), "old"), setOf("u", dotsIn(of(0, 1), of(9, 3)))}, below.Leaves[0]},
		// Dropped on one side, there on the other, with one more.
		{dotsIn(of(2, 1), of(3, 1)), []api.Leaf{counter(7), register(2, of(9, 2), "old"), setOf("u", dotsIn(of(0, 1), of(9, 3)), of(3, 1))}, below.Leaves[0]},
		// The later register, of one time the greater dot's; log items by their times.
		{dotsIn(of(1, 2), of(4, 1)), []api.Leaf{counter(7), register(2, of(9, 2), "old"), setOf("u", nil, of(9, 3))}, log(said(2, of(4, 1), "y"), said(3, of(9, 1), "x"))},
		{dotsIn(of(1, 2), of(2, 2), of(5, 1)), []api.Leaf{counter(-2), register(2, of(9, 2), "old"), setOf("u", dotsIn(of(0, 1), of(9, 3)))}, below.Leaves[0]},
	} {
		state(t, g, treeOf(api.Node{Name: "a", Leaves: x.at, Below: treeOf(has("a", x.log))}), x.dots...)
	}
	grow(t, g, of(1, 3), set("next", "a"), of(1, 2))
	grow(t, g, of(5, 2), set("least", "a"), of(5, 1))
	all := treeOf(
		api.Node{Name: "a", Leaves: []api.Leaf{counter(-2), register(3, of(5, 2), "least"), setOf("u", dotsIn(of(0, 1), of(9, 3)), of(3, 1))}, Below: treeOf(has("a", log(said(2, of(4, 1), "y"), said(3, of(9, 1), "x"))))},
		has("b", log(said(1, of(6, 1), "z"))),
	)
	heads(t, g, all)
	grow(t, g, of(7, 1), add(0, "a"), of(1, 3), of(2, 2), of(3, 1), of(4, 1), of(5, 2), of(6, 1))
	alone(t, g, all, of(7, 1))
}

// P14.1, P14.3: counters wrap round at 2^64 on the way, and are right at its end.
func TestWrap(t *testing.T) {
	most := int64(1<<63 - 1)
	g := graphOf(t, sum(most))
	grow(t, g, of(0, 1), add(1, "a"))
	grow(t, g, of(1, 1), add(2, "a"), of(0, 1))
	grow(t, g, of(2, 1), add(-3, "a"), of(0, 1))
	alone(t, g, sum(-most-1), of(0, 1))
	heads(t, g, sum(most))
}

// P14.1: ErrNone, and no tree, if one of the dots is not there, wherever it stands.
func TestNone(t *testing.T) {
	g := crossed(t)
	for _, d := range []api.Dot{of(9, 1), of(9, 2), of(9, 3), of(0, 2), of(5, 1), at(0, 2, 1), of(0, 0), at(0, 0, 1), at(16, 1, 1), at(0, 5, 1), of(0, 1<<20+1), {}} {
		for _, l := range [][]api.Dot{{d}, {d, d}, {d, of(0, 1)}, {of(2, 2), d, of(0, 1)}, {of(0, 1), of(1, 1), of(4, 1), d}} {
			if x, e := State(g, l); e != api.ErrNone || x != nil {
				t.Errorf("State(%v) = %v, %d", l, x, e)
			}
		}
		if x, e := Commit(g, d); e != api.ErrNone || x != nil {
			t.Errorf("Commit(%v) = %v, %d", d, x, e)
		}
	}
}

// P14.1, P14.2, Rules: ErrNil of a graph that is not there, or was not made, ahead of ErrNone.
func TestNotMade(t *testing.T) {
	for _, g := range []*graph.Graph{nil, {}, new(graph.Graph)} {
		for _, l := range [][]api.Dot{nil, {}, {of(0, 1)}, {of(1, 1), of(0, 1), {}}} {
			if x, e := State(g, l); e != api.ErrNil || x != nil {
				t.Errorf("State(%v) = %v, %d", l, x, e)
			}
		}
		if x, e := Heads(g); e != api.ErrNil || x != nil {
			t.Errorf("Heads() = %v, %d", x, e)
		}
		for _, d := range []api.Dot{of(0, 1), {}} {
			if x, e := Commit(g, d); e != api.ErrNil || x != nil {
				t.Errorf("Commit(%v) = %v, %d", d, x, e)
			}
		}
	}
}

// P14.3: lists of dots never stand for each other, though they be written alike.
func TestText(t *testing.T) {
	seen := map[string]int{}
	few := []api.Dot{of(1, 1), of(1, 11), of(11, 1), of(11, 11), of(1, 111), at(1, 11, 1), at(1, 1, 1<<20)}
	var lists [][]api.Dot
	for _, a := range few {
		lists = append(lists, dotsIn(a))
		for _, b := range few {
			lists = append(lists, dotsIn(a, b))
			for _, c := range few {
				lists = append(lists, dotsIn(a, b, c))
			}
		}
	}
	for _, l := range lists {
		if seen[text(l)]++; seen[text(l)] > 1 {
			t.Error(l, text(l))
		}
	}
}
