package order

import (
	"math"
	"slices"
	"testing"

	"varve/api"
	"varve/commit"
	"varve/dot"
	"varve/graph"
)

// at tells the dot of these numbers.
func at(rep uint8, inc uint32, seq uint64) api.Dot {
	return api.Dot{Actor: api.Actor{Rep: rep, Inc: inc}, Seq: seq}
}

// of tells the n-th dot of a replica's first life.
func of(rep uint8, n uint64) api.Dot { return at(rep, 1, n) }

func dotsIn(l ...api.Dot) []api.Dot { return l }

func vector(l ...api.Dot) api.Vector { return l }

// graphOf tells the graph of a baseline of that F, whose tips are all its dots.
func graphOf(t *testing.T, f ...api.Dot) *graph.Graph {
	t.Helper()
	b := api.Base{F: f, Tips: f}
	if len(f) > 0 {
		b.Num, b.Time = 7, 3
		b.Tree = api.Tree{{Name: "a", Leaves: []api.Leaf{{Type: api.Counter, N: 5}}}}
	}
	g, e := graph.New(b)
	if e != api.OK {
		t.Fatalf("New(%v): %d", b, e)
	}
	return g
}

// grow puts a commit of a dot at a time into a graph, on parents, with the least history that it can have.
func grow(t *testing.T, g *graph.Graph, d api.Dot, time uint64, parents ...api.Dot) {
	t.Helper()
	c := api.Commit{Dot: d, Parents: parents, Time: time, Op: api.Op{Kind: api.OpAdd, Path: []string{"a"}, N: int64(time)}}
	all := append(slices.Clone(parents), d)
	for _, p := range parents {
		x, _ := g.Get(p)
		all = append(all, x.VV...)
	}
	c.VV = dot.Canon(all)
	if e := g.Insert(c); e != api.OK {
		t.Fatalf("Insert(%v): %d", c, e)
	}
}

// some tells a graph above 9.1.2 and 9.2.1 whose commits were put in in another order than they stand in.
func some(t *testing.T) *graph.Graph {
	t.Helper()
	g := graphOf(t, of(9, 2), at(9, 2, 1))
	grow(t, g, of(2, 1), 9)
	grow(t, g, of(0, 1), 6, of(9, 2))
	grow(t, g, of(1, 1), 2)
	grow(t, g, of(1, 2), 9, of(0, 1), of(1, 1))
	grow(t, g, of(9, 3), 1, of(9, 2))
	grow(t, g, at(1, 2, 1), 9, of(1, 1))
	grow(t, g, of(0, 2), 7, of(0, 1))
	grow(t, g, of(0, 3), 9, of(0, 2))
	grow(t, g, of(1, 3), 10, of(1, 2))
	return g
}

// inOrder tells the dots of that graph's commits in their order: by Time, by Rep, by Inc, by Seq.
func inOrder() []api.Dot {
	return dotsIn(of(9, 3), of(1, 1), of(0, 1), of(0, 2), of(0, 3), of(1, 2), at(1, 2, 1), of(2, 1), of(1, 3))
}

// lacks checks that the commits of some dots are told, one by one as they are in the graph.
func lacks(t *testing.T, g *graph.Graph, v api.Vector, most int, want ...api.Dot) {
	t.Helper()
	l := Lacks(g, v, most)
	isOf := func(c api.Commit, d api.Dot) bool {
		x, is := g.Get(d)
		return is && commit.Same(c, x)
	}
	if !slices.EqualFunc(l, want, isOf) {
		t.Errorf("Lacks(%v, %d) = %v, not those of %v", v, most, l, want)
	}
}

// P15.1: the document's example.
func TestExample(t *testing.T) {
	g := graphOf(t)
	for i, time := range []uint64{1, 3, 2} {
		grow(t, g, of(uint8(i), 1), time)
	}
	lacks(t, g, nil, 2, of(0, 1), of(2, 1))
	lacks(t, g, nil, 3, of(0, 1), of(2, 1), of(1, 1))
}

// P15.1: of all that is lacked the first ones, as many as are asked for; none of most below 1.
func TestMost(t *testing.T) {
	g, all := some(t), inOrder()
	for most := range len(all) + 1 {
		lacks(t, g, nil, most, all[:most]...)
		lacks(t, g, vector(), most, all[:most]...)
	}
	for _, most := range []int{len(all) + 1, 64, 200, 1 << 32, math.MaxInt} {
		lacks(t, g, nil, most, all...)
	}
	for _, most := range []int{0, -1, -2, -64, math.MinInt32, math.MinInt} {
		lacks(t, g, nil, most)
		lacks(t, g, vector(of(0, 1)), most)
	}
	// Those that are known do not count.
	v := vector(of(0, 2), of(9, 3))
	left := dotsIn(of(1, 1), of(0, 3), of(1, 2), at(1, 2, 1), of(2, 1), of(1, 3))
	for most := range len(left) + 1 {
		lacks(t, g, v, most, left[:most]...)
	}
	lacks(t, g, v, math.MaxInt, left...)
}

// P15.1: a commit is lacked just if its own dot is not within the vector, whatever else is.
func TestLacks(t *testing.T) {
	g := some(t)
	all := inOrder()
	for i, x := range []struct {
		v    api.Vector
		gone []api.Dot
	}{
		{vector(of(0, 1)), dotsIn(of(0, 1))},
		// A dot that is within: also those ahead of it of its actor, not what it stands on.
		{vector(of(0, 3)), dotsIn(of(0, 1), of(0, 2), of(0, 3))},
		{vector(of(1, 3)), dotsIn(of(1, 1), of(1, 2), of(1, 3))},
		{vector(of(1, 2)), dotsIn(of(1, 1), of(1, 2))},
		// Each life is an actor of its own.
		{vector(at(1, 2, 1)), dotsIn(at(1, 2, 1))},
		{vector(at(1, 2, 3)), dotsIn(at(1, 2, 1))},
		{vector(at(1, 3, 3), at(0, 2, 3)), nil},
		// What is within the baseline is not lacked, nor is it known by the baseline what is above it.
		{vector(of(9, 2), at(9, 2, 1)), nil},
		{vector(of(9, 3)), dotsIn(of(9, 3))},
		{vector(of(2, 1), of(9, 1)), dotsIn(of(2, 1))},
		// Vectors that go beyond what is there.
		{vector(of(0, 1<<20), of(3, 5), of(15, 1<<20)), dotsIn(of(0, 1), of(0, 2), of(0, 3))},
		{g.VV(), all},
		{vector(of(0, 9), of(1, 9), at(1, 2, 9), of(2, 9), of(9, 9)), all},
		// Vectors that stand for the same numbers are one.
		{vector(of(2, 1), of(0, 2), of(0, 1)), dotsIn(of(0, 1), of(0, 2), of(2, 1))},
		{vector(of(0, 1), of(2, 1), of(0, 2), of(0, 2), of(0, 1)), dotsIn(of(0, 1), of(0, 2), of(2, 1))},
		// Dots that may not be stand for nothing.
		{vector(of(0, 0), of(1, 1<<20+1), at(0, 0, 3), at(0, 5, 3), at(16, 1, 3), at(255, 1, 3), of(2, math.MaxUint64), api.Dot{}), nil},
		{vector(of(0, 1<<20+1), of(0, 1), of(0, math.MaxUint64)), dotsIn(of(0, 1))},
	} {
		want := slices.DeleteFunc(inOrder(), func(d api.Dot) bool { return slices.Contains(x.gone, d) })
		if len(want)+len(x.gone) != len(all) {
			t.Fatal(i, want, x.gone)
		}
		lacks(t, g, x.v, 99, want...)
		lacks(t, g, x.v, 3, want[:min(3, len(want))]...)
	}
}

// P15.1: nothing is lacked of a graph without commits, whatever its baseline has.
func TestNoCommits(t *testing.T) {
	for _, g := range []*graph.Graph{graphOf(t), graphOf(t, of(0, 3), of(1, 1))} {
		for _, v := range []api.Vector{nil, {}, {of(0, 1)}, {of(5, 1), of(0, 3), {}}} {
			lacks(t, g, v, 99)
			lacks(t, g, v, 0)
		}
	}
}

// P15.1, Rules: of a graph that is not there, or was not made, nothing.
func TestNotMade(t *testing.T) {
	for _, g := range []*graph.Graph{nil, {}, new(graph.Graph)} {
		for _, v := range []api.Vector{nil, {}, {of(0, 1)}, {of(5, 1), of(0, 3), {}}} {
			for _, most := range []int{math.MinInt, -1, 0, 1, 2, 200, math.MaxInt} {
				if l := Lacks(g, v, most); len(l) != 0 {
					t.Error(v, most, l)
				}
			}
		}
	}
}

// P15.1: the order is that of the graph's Commits.
func TestAsCommits(t *testing.T) {
	g := graphOf(t)
	for i := range 64 {
		// By 37 all 64 actors are come by, in no order.
		d := at(uint8(i*37%64/4), uint32(i*37%64%4+1), 1)
		grow(t, g, d, uint64(i%5+1))
		next := d
		next.Seq = 2
		grow(t, g, next, uint64(i%7+6), d)
	}
	all := g.Commits()
	if l := Lacks(g, nil, 200); !slices.EqualFunc(l, all, commit.Same) {
		t.Errorf("%v, not %v", l, all)
	}
	for i := range all[1:] {
		if !Ahead(all[i], all[i+1]) || Ahead(all[i+1], all[i]) {
			t.Error(all[i], all[i+1])
		}
	}
}

// placed tells commits of many times and dots, those that may not be among them: each is ahead of all behind it.
func placed() []api.Commit {
	var l []api.Commit
	for _, time := range []uint64{0, 1, 2, 255, 256, 1 << 32, 1 << 40, 1<<40 + 1, 1 << 63, math.MaxUint64} {
		for _, rep := range []uint8{0, 1, 15, 16, 128, 255} {
			for _, inc := range []uint32{0, 1, 4, 5, math.MaxUint32} {
				for _, seq := range []uint64{0, 1, 2, 1 << 20, 1<<20 + 1, 1 << 63, math.MaxUint64} {
					l = append(l, api.Commit{Dot: at(rep, inc, seq), Time: time})
				}
			}
		}
	}
	return l
}

// P15.1: Time goes ahead of the dot, a dot's Rep ahead of its Inc, that ahead of its Seq; of each two commits one is ahead, and none of itself.
func TestAhead(t *testing.T) {
	l := placed()
	for i, a := range l {
		for j, b := range l {
			if Ahead(a, b) != (i < j) {
				t.Fatalf("Ahead(%v, %v), of %d and %d", a, b, i, j)
			}
		}
	}
}

// P15.1: nothing else of commits is asked for what is ahead.
func TestAheadAlone(t *testing.T) {
	drop := api.Op{Kind: api.OpDrop, Path: []string{"b", "a"}, Text: "u", Dots: dotsIn(of(0, 1))}
	add := api.Op{Kind: api.OpAdd, Path: []string{"a"}, N: math.MinInt64}
	var l []api.Commit
	for _, o := range []api.Op{{}, drop, add} {
		for _, v := range []api.Vector{nil, {of(0, 1)}, {of(0, 2), of(5, 1)}} {
			for _, parents := range [][]api.Dot{nil, {of(0, 1)}, {of(7, 7), of(0, 2)}} {
				l = append(l, api.Commit{Parents: parents, VV: v, Op: o})
			}
		}
	}
	for _, a := range l {
		for _, b := range l {
			a.Dot, b.Dot, a.Time, b.Time = of(0, 2), of(0, 2), 4, 4
			if Ahead(a, b) {
				t.Error("of one time and dot", a, b)
			}
			if b.Dot = of(0, 3); !Ahead(a, b) || Ahead(b, a) {
				t.Error("of one time", a, b)
			}
			if a.Time = 5; Ahead(a, b) || !Ahead(b, a) {
				t.Error("of two times", a, b)
			}
		}
	}
}

// P1: of a full graph and long vectors calls end soon.
func TestMuch(t *testing.T) {
	g := graphOf(t)
	var last, all []api.Dot
	for n := range api.MaxCommits {
		d := at(uint8(n%64/4), uint32(n%4+1), uint64(n/64+1))
		if n%64 == 0 {
			last = slices.Clone(all[max(0, n-64):])
		}
		grow(t, g, d, uint64(n/64+1), last...)
		all = append(all, d)
	}
	lacks(t, g, nil, math.MaxInt, all...)
	lacks(t, g, slices.Repeat(vector(all[:64]...), 10000), math.MaxInt, all[64:]...)
	lacks(t, g, slices.Repeat(vector(append(all[:70:70], api.Dot{}, of(0, math.MaxUint64))...), 10000), 5, all[70:75]...)
	lacks(t, g, slices.Repeat(vector(all...), 3000), math.MaxInt)
}
