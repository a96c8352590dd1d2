package base

import (
	"slices"
	"strconv"
	"testing"

	"varve/api"
	"varve/commit"
	"varve/dot"
	"varve/graph"
)

// at tells the dot of these numbers.
func at(rep uint8, inc uint32, seq uint64) api.Dot {
	return api.Dot{Actor: api.Actor{Rep: rep, Inc: inc}, Seq: seq}
}

// of tells the n-th dot of a replica's first life.
func of(rep uint8, n uint64) api.Dot { return at(rep, 1, n) }

func dotsIn(l ...api.Dot) []api.Dot { return l }

func vector(l ...api.Dot) api.Vector { return l }

// graphOf tells the graph of a baseline of that F, whose tips are all its dots.
func graphOf(t *testing.T, f ...api.Dot) *graph.Graph {
	t.Helper()
	b := api.Base{F: f, Tips: f}
	if len(f) > 0 {
		b.Num, b.Time = 7, 3
		b.Tree = api.Tree{{Name: "a", Leaves: []api.Leaf{{Type: api.Counter, N: 5}}}}
	}
	g, e := graph.New(b)
	if e != api.OK {
		t.Fatalf("New(%v): %d", b, e)
	}
	return g
}

// put puts a commit of a dot into a graph, on parents, with the least history that it can have, but for more that it knows.
func put(t *testing.T, g *graph.Graph, d api.Dot, more api.Vector, parents ...api.Dot) {
	t.Helper()
	c := api.Commit{Dot: d, Parents: parents, Time: g.Base().Time + 1, Op: api.Op{Kind: api.OpAdd, Path: []string{"a"}, N: 1}}
	all := slices.Concat(more, parents, api.Vector{d})
	for _, p := range parents {
		x, _ := g.Get(p)
		all = append(all, x.VV...)
		c.Time = max(c.Time, x.Time+1)
	}
	c.VV = dot.Canon(all)
	if e := g.Insert(c); e != api.OK {
		t.Fatalf("Insert(%v): %d", c, e)
	}
}

// crossed tells a graph above 9.1.1 and 9.2.2: two commits, each two on both, and one on one of these and one on one of those.
func crossed(t *testing.T) *graph.Graph {
	t.Helper()
	g := graphOf(t, of(9, 1), at(9, 2, 2))
	put(t, g, of(0, 1), nil, of(9, 1))
	put(t, g, of(1, 1), vector(at(9, 2, 1)))
	put(t, g, of(2, 1), nil, of(0, 1), of(1, 1))
	put(t, g, of(3, 1), nil, of(0, 1), of(1, 1))
	put(t, g, of(2, 2), nil, of(2, 1))
	put(t, g, of(4, 1), vector(at(9, 2, 2)), of(0, 1))
	return g
}

// tells checks that rising dots are told.
func tells(t *testing.T, name string, got []api.Dot, want ...api.Dot) {
	t.Helper()
	if !slices.Equal(got, want) {
		t.Errorf("%s: %v, not %v", name, got, want)
	}
}

// P13.2: the document's examples.
func TestExamples(t *testing.T) {
	g := graphOf(t)
	put(t, g, of(0, 1), nil)
	put(t, g, of(1, 1), nil, of(0, 1))
	put(t, g, of(2, 1), nil, of(0, 1))
	tells(t, "b and c on a", Of(g, dotsIn(of(1, 1)), of(2, 1)), of(0, 1))
	put(t, g, of(3, 1), nil)
	tells(t, "two that share nothing", Of(g, dotsIn(of(1, 1)), of(3, 1)))
	tells(t, "two that share nothing", Of(g, dotsIn(of(3, 1)), of(2, 1)))
}

// P13.1: F joined with the VVs of the dots' commits that are there.
func TestLifted(t *testing.T) {
	g := crossed(t)
	f := vector(of(9, 1), at(9, 2, 2))
	for i, x := range []struct {
		dots []api.Dot
		want api.Vector
	}{
		{nil, f},
		{dotsIn(), f},
		// Of one: its VV, not its dot alone, and F, all of it.
		{dotsIn(of(0, 1)), append(vector(of(0, 1)), f...)},
		{dotsIn(of(1, 1)), append(vector(of(1, 1)), f...)},
		{dotsIn(of(2, 1)), append(vector(of(0, 1), of(1, 1), of(2, 1)), f...)},
		{dotsIn(of(4, 1)), append(vector(of(0, 1), of(4, 1)), f...)},
		// Of some, in any order, one twice.
		{dotsIn(of(4, 1), of(1, 1)), append(vector(of(0, 1), of(1, 1), of(4, 1)), f...)},
		{dotsIn(of(1, 1), of(4, 1), of(1, 1)), append(vector(of(0, 1), of(1, 1), of(4, 1)), f...)},
		{dotsIn(of(3, 1), of(2, 2), of(0, 1)), append(vector(of(0, 1), of(1, 1), of(2, 2), of(3, 1)), f...)},
		// Of dots that are not there: within F, beyond what is there, and such as may not be.
		{dotsIn(of(9, 1), at(9, 2, 2), at(9, 2, 1)), f},
		{dotsIn(of(0, 2), of(5, 1), at(0, 2, 1), of(9, 2), at(16, 1, 1), of(0, 0), api.Dot{}), f},
		{dotsIn(of(5, 1), of(0, 1), of(0, 2)), append(vector(of(0, 1)), f...)},
	} {
		if v := Lifted(g, x.dots); !slices.Equal(v, x.want) {
			t.Errorf("%d: Lifted(%v) = %v, not %v", i, x.dots, v, x.want)
		}
	}
}

// P13.1: of the commits whose whole VV is within the vector joined with F the greatest, rising.
func TestWithin(t *testing.T) {
	g := crossed(t)
	for i, x := range []struct {
		v    api.Vector
		want []api.Dot
	}{
		{nil, nil},
		{vector(), nil},
		// F is joined: 9.1.1 and 9.2.1, which they know, need not be in the vector.
		{vector(of(0, 1)), dotsIn(of(0, 1))},
		{vector(of(1, 1)), dotsIn(of(1, 1))},
		{vector(of(9, 1), at(9, 2, 2)), nil},
		{vector(of(0, 1), of(1, 1)), dotsIn(of(0, 1), of(1, 1))},
		// A commit whose dot is within the vector, but not its VV, is not.
		{vector(of(2, 1)), nil},
		{vector(of(0, 1), of(2, 1)), dotsIn(of(0, 1))},
		{vector(of(1, 1), of(2, 2), of(4, 1)), dotsIn(of(1, 1))},
		{vector(of(0, 1), of(4, 1)), dotsIn(of(4, 1))},
		{vector(of(0, 1), of(1, 1), of(2, 1)), dotsIn(of(2, 1))},
		{vector(of(0, 1), of(1, 1), of(2, 2)), dotsIn(of(2, 2))},
		{vector(of(0, 1), of(1, 1), of(2, 1), of(3, 1), of(4, 1)), dotsIn(of(2, 1), of(3, 1), of(4, 1))},
		// Vectors that go beyond what is there.
		{vector(of(0, 9), of(1, 1<<20), of(2, 7), at(9, 2, 5), of(12, 1)), dotsIn(of(2, 2))},
		{vector(at(0, 2, 9), of(5, 1)), nil},
		{g.VV(), dotsIn(of(2, 2), of(3, 1), of(4, 1))},
		// Vectors that stand for the same numbers are one; dots that may not be stand for nothing.
		{vector(of(2, 1), of(1, 1), of(0, 1), of(2, 2), of(1, 1)), dotsIn(of(2, 2))},
		{vector(of(2, 2), of(0, 1), of(1, 1), of(2, 1)), dotsIn(of(2, 2))},
		{vector(of(2, 1<<20+1), at(4, 0, 1), of(1, 0), at(16, 1, 1), of(0, 1), api.Dot{}), dotsIn(of(0, 1))},
	} {
		tells(t, "Within "+strconv.Itoa(i), Within(g, x.v), x.want...)
	}
}

// P13.2: the bases of some commits and one more.
func TestOf(t *testing.T) {
	g := crossed(t)
	for i, x := range []struct {
		a    []api.Dot
		b    api.Dot
		want []api.Dot
	}{
		// Two bases of which neither is behind the other.
		{dotsIn(of(2, 1)), of(3, 1), dotsIn(of(0, 1), of(1, 1))},
		{dotsIn(of(3, 1)), of(2, 2), dotsIn(of(0, 1), of(1, 1))},
		{dotsIn(of(2, 1)), of(4, 1), dotsIn(of(0, 1))},
		// A commit is its own ancestor.
		{dotsIn(of(2, 2)), of(2, 2), dotsIn(of(2, 2))},
		{dotsIn(of(0, 1)), of(0, 1), dotsIn(of(0, 1))},
		{dotsIn(of(2, 2)), of(2, 1), dotsIn(of(2, 1))},
		{dotsIn(of(2, 1)), of(2, 2), dotsIn(of(2, 1))},
		{dotsIn(of(0, 1)), of(2, 2), dotsIn(of(0, 1))},
		{dotsIn(of(2, 2)), of(1, 1), dotsIn(of(1, 1))},
		// What is within F alone is shared, but not there.
		{dotsIn(of(0, 1)), of(1, 1), nil},
		{dotsIn(of(4, 1)), of(1, 1), nil},
		// Of some: what any of them has.
		{dotsIn(of(4, 1), of(1, 1)), of(2, 2), dotsIn(of(0, 1), of(1, 1))},
		{dotsIn(of(1, 1), of(0, 1)), of(4, 1), dotsIn(of(0, 1))},
		{dotsIn(of(2, 1), of(4, 1)), of(3, 1), dotsIn(of(0, 1), of(1, 1))},
		{dotsIn(of(3, 1), of(2, 2), of(3, 1)), of(2, 1), dotsIn(of(2, 1))},
		{dotsIn(of(0, 1), of(2, 1)), of(2, 2), dotsIn(of(2, 1))},
		// Dots that are not there are as if they were not told: within F, beyond what is there, and such as may not be.
		{nil, of(2, 1), nil},
		{dotsIn(), of(2, 1), nil},
		{dotsIn(of(9, 1), at(9, 2, 1)), of(0, 1), nil},
		{dotsIn(of(9, 1)), of(9, 1), nil},
		{dotsIn(of(2, 1)), of(9, 1), nil},
		{dotsIn(of(2, 3)), of(2, 2), nil},
		{dotsIn(of(2, 2)), of(2, 3), nil},
		{dotsIn(of(5, 1)), of(5, 1), nil},
		{dotsIn(api.Dot{}, of(0, 0), at(0, 5, 1), at(16, 1, 1)), of(0, 1), nil},
		{dotsIn(of(2, 1)), api.Dot{}, nil},
		{dotsIn(of(5, 1), of(2, 1), of(9, 1), of(4, 2)), of(3, 1), dotsIn(of(0, 1), of(1, 1))},
	} {
		tells(t, "Of "+strconv.Itoa(i), Of(g, x.a, x.b), x.want...)
	}
}

// P13.1, P13.2: what is told rises: by Rep, by Inc, by Seq.
func TestRise(t *testing.T) {
	g := graphOf(t)
	first := dotsIn(at(0, 1, 1), at(0, 2, 1), at(0, 4, 1), at(1, 1, 1), at(2, 3, 1), at(15, 1, 1), at(15, 4, 1))
	for _, i := range []int{4, 1, 6, 0, 5, 2, 3} {
		put(t, g, first[i], nil)
	}
	put(t, g, at(3, 1, 1), nil, first...)
	put(t, g, at(0, 3, 1), nil, first...)
	for range 20 {
		tells(t, "bases", Of(g, dotsIn(at(3, 1, 1)), at(0, 3, 1)), first...)
		tells(t, "within their vector", Within(g, first), first...)
		tells(t, "within all", Within(g, g.VV()), at(0, 3, 1), at(3, 1, 1))
	}
}

// P13.3: a base may be far behind, and beside long ways to lesser ones.
func TestLong(t *testing.T) {
	g := graphOf(t, of(9, 4))
	put(t, g, of(0, 1), nil, of(9, 3))
	for n := range uint64(97) {
		put(t, g, of(0, n+2), nil, of(0, n+1))
	}
	put(t, g, of(1, 1), nil, of(0, 1))
	for n := range uint64(97) {
		put(t, g, of(1, n+2), nil, of(1, n+1))
	}
	tells(t, "of both ends", Of(g, dotsIn(of(0, 98)), of(1, 98)), of(0, 1))
	put(t, g, of(2, 1), nil, of(0, 50), of(1, 30))
	put(t, g, of(3, 1), nil, of(0, 40), of(1, 70))
	tells(t, "of two across", Of(g, dotsIn(of(2, 1)), of(3, 1)), of(0, 40), of(1, 30))
	tells(t, "of one across and an end", Of(g, dotsIn(of(0, 98)), of(3, 1)), of(0, 40))
	tells(t, "of both across and an end", Of(g, dotsIn(of(2, 1), of(3, 1)), of(0, 98)), of(0, 50))
	put(t, g, of(4, 1), nil, of(2, 1), of(3, 1))
	tells(t, "of what joins both, and an end", Of(g, dotsIn(of(4, 1)), of(1, 98)), of(1, 70))
}

// P1: graphs that are full and wide, and long lists, end.
func TestMuch(t *testing.T) {
	g := graphOf(t)
	var last, all []api.Dot
	for n := range 192 {
		d := at(uint8(n%64/4), uint32(n%4+1), uint64(n/64+1))
		if n%64 == 0 {
			last, all = slices.Clone(all), nil
		}
		put(t, g, d, nil, last...)
		all = append(all, d)
	}
	ends, end := all[:63], all[63]
	tells(t, "bases", Of(g, ends, end), last...)
	many := slices.Repeat(slices.Concat(ends, dotsIn(of(0, 9), api.Dot{})), 4000)
	tells(t, "bases of many", Of(g, many, end), last...)
	want := slices.Concat(ends, last[63:])
	tells(t, "the history of many", Lifted(g, many), want...)
	tells(t, "within it, many times", Within(g, slices.Repeat(want, 4000)), ends...)
}

// P1: ladders end, of two that always have both ahead of them behind them: there are more ways down than can be walked one by one.
func TestLadder(t *testing.T) {
	g := graphOf(t, of(9, 1))
	put(t, g, of(2, 1), nil, of(9, 1))
	put(t, g, of(3, 1), nil)
	last := dotsIn(of(2, 1))
	for n := range uint64(98) {
		put(t, g, of(0, n+1), nil, last...)
		put(t, g, of(1, n+1), nil, last...)
		last = dotsIn(of(0, n+1), of(1, n+1))
	}
	put(t, g, of(0, 99), nil, append(last, of(3, 1))...)
	tells(t, "of both ends", Of(g, dotsIn(of(0, 98)), of(1, 98)), of(0, 97), of(1, 97))
	tells(t, "of the foot and an end", Of(g, dotsIn(of(2, 1)), of(1, 98)), of(2, 1))
	tells(t, "of an end and the foot", Of(g, dotsIn(of(1, 98)), of(2, 1)), of(2, 1))
	tells(t, "of what is beside and an end", Of(g, dotsIn(of(3, 1)), of(1, 98)))
	tells(t, "of an end and what is beside", Of(g, dotsIn(of(1, 98)), of(3, 1)))
	tells(t, "of the foot, what is beside, and what joins all", Of(g, dotsIn(of(2, 1), of(3, 1)), of(0, 99)), of(2, 1), of(3, 1))
	tells(t, "within all", Within(g, g.VV()), of(0, 99))
}

// P13.1, P13.2, Rules: of a graph that is not there, or was not made, nothing.
func TestNotMade(t *testing.T) {
	for _, g := range []*graph.Graph{nil, {}, new(graph.Graph)} {
		for _, l := range [][]api.Dot{nil, {}, {of(0, 1)}, {of(0, 1), of(1, 1), {}}} {
			if len(Lifted(g, l))+len(Within(g, l))+len(Of(g, l, of(0, 1)))+len(Of(g, l, api.Dot{})) != 0 {
				t.Error(g, l)
			}
		}
	}
}

// roomy tells a copy of a list, even of an empty one, with room behind it that is marked.
func roomy(l []api.Dot) []api.Dot {
	return append(slices.Clip(slices.Clone(l)), of(7, 77), of(7, 77))[:len(l)]
}

// whole tells whether a list that was handed in is as it was, and so is the room behind it.
func whole(h, l []api.Dot) bool {
	return slices.Equal(h[:len(l)+2], append(slices.Clone(l), of(7, 77), of(7, 77)))
}

// sameGraph tells whether two graphs tell the same.
func sameGraph(g, h *graph.Graph) bool {
	a, b := g.Base(), h.Base()
	return slices.Equal(a.F, b.F) && slices.Equal(a.Tips, b.Tips) && slices.EqualFunc(g.Commits(), h.Commits(), commit.Same)
}

// Rules: what is handed in is not changed, nor the room behind it; what is told is told anew each time, in memory of its own.
func TestOwn(t *testing.T) {
	g := crossed(t)
	was := g.Copy()
	for _, l := range [][]api.Dot{
		nil, {of(3, 1), of(2, 1), of(3, 1)}, {of(9, 1)}, {of(9, 2), of(0, 1), {}, of(9, 1)}, {of(4, 1), of(1, 1), of(0, 1)}, g.VV(),
	} {
		h := roomy(l)
		for _, f := range []func() []api.Dot{
			func() []api.Dot { return Lifted(g, h) },
			func() []api.Dot { return Within(g, h) },
			func() []api.Dot { return Of(g, h, of(2, 2)) },
		} {
			first := f()
			want := slices.Clone(first)
			if !whole(h, l) || !sameGraph(g, was) {
				t.Fatalf("changed: %v", l)
			}
			clear(first[:cap(first)])
			if !whole(h, l) || !sameGraph(g, was) || !slices.Equal(f(), want) {
				t.Fatalf("changed by what was told: %v", l)
			}
		}
	}
}
