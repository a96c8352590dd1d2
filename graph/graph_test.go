package graph

import (
	"math"
	"slices"
	"strings"
	"testing"

	"varve/api"
	"varve/commit"
	"varve/leaf"
	"varve/tree"
)

// at tells the dot of these numbers.
func at(rep uint8, inc uint32, seq uint64) api.Dot {
	return api.Dot{Actor: api.Actor{Rep: rep, Inc: inc}, Seq: seq}
}

// one tells the n-th dot of replica 0's first life, two that of replica 1's, three that of replica 2's.
func one(n uint64) api.Dot { return at(0, 1, n) }

func two(n uint64) api.Dot { return at(1, 1, n) }

func three(n uint64) api.Dot { return at(2, 1, n) }

func dotsIn(l ...api.Dot) []api.Dot { return l }

func add(n int64) api.Op { return api.Op{Kind: api.OpAdd, Path: []string{"a"}, N: n} }

// did tells the commit of a dot at a time, with a history and parents.
func did(d api.Dot, time uint64, vv api.Vector, parents ...api.Dot) api.Commit {
	return api.Commit{Dot: d, Parents: parents, VV: vv, Time: time, Op: add(int64(d.Seq % 1000))}
}

// actors tells a dot of each actor that may be, with that Seq, rising.
func actors(seq uint64) []api.Dot {
	var l []api.Dot
	for n := range 64 {
		l = append(l, at(uint8(n/4), uint32(n%4+1), seq))
	}
	return l
}

func counter(n int64) api.Leaf { return api.Leaf{Type: api.Counter, N: n} }

func has(name string, l ...api.Leaf) api.Node { return api.Node{Name: name, Leaves: l} }

func over(name string, l ...api.Node) api.Node { return api.Node{Name: name, Below: l} }

// big tells a tree that has something of all that trees can have.
func big() api.Tree {
	full := []api.Leaf{
		counter(-7),
		{Type: api.Register, Time: 3, Dot: one(4), Text: "w"},
		{Type: api.Set, Items: []api.Item{{Dot: one(1), Text: "u"}, {Dot: two(1), Text: "v"}}, Tombs: dotsIn(one(2), one(3))},
		{Type: api.Log, Items: []api.Item{{Time: 1, Dot: one(9), Text: "x"}, {Time: 2, Dot: one(8)}}},
	}
	return api.Tree{api.Node{Name: "a", Leaves: full, Below: api.Tree{over("b", has("c", full...)), has("c", full[2])}}, has("d", leaf.New(api.Set))}
}

// goodBase tells a baseline that may be, with something in each of its parts.
func goodBase() api.Base {
	return api.Base{Num: 3, F: api.Vector{one(2), two(1), at(2, 2, 4)}, Tips: dotsIn(one(2), at(2, 2, 4)), Time: 4, Tree: big()}
}

// butBase tells the good baseline, changed.
func butBase(change func(b *api.Base)) api.Base {
	b := goodBase()
	change(&b)
	return b
}

// sameBase tells whether two baselines are the same, dot by dot.
func sameBase(a, b api.Base) bool {
	return a.Num == b.Num && slices.Equal(a.F, b.F) && slices.Equal(a.Tips, b.Tips) && a.Time == b.Time && tree.Same(a.Tree, b.Tree)
}

// sameCommits tells whether two lists of commits are the same.
func sameCommits(a, b []api.Commit) bool { return slices.EqualFunc(a, b, commit.Same) }

// noCommit tells whether a commit is the zero one.
func noCommit(c api.Commit) bool {
	o := c.Op
	return c.Dot == api.Dot{} && len(c.Parents)+len(c.VV)+len(o.Path)+len(o.Dots) == 0 && c.Time == 0 && o.Kind == 0 && o.N == 0 && o.Text == ""
}

// graphOf tells the graph of a baseline, with commits put in; it fails where something is refused.
func graphOf(t *testing.T, b api.Base, l ...api.Commit) *Graph {
	t.Helper()
	g, e := New(b)
	if e != api.OK {
		t.Fatalf("New(%v): %d", b, e)
	}
	for i, c := range l {
		if e := g.Insert(c); e != api.OK {
			t.Fatalf("%d of %v: %d", i, l, e)
		}
	}
	return g
}

// rightBases tells baselines that may be.
func rightBases() []api.Base {
	var tips []api.Dot
	for n := range uint64(64) {
		tips = append(tips, one(n+1))
	}
	return []api.Base{
		{},
		{F: api.Vector{}, Tips: dotsIn(), Tree: api.Tree{}},
		{Num: math.MaxUint64},
		{Tree: big()},
		goodBase(),
		butBase(func(b *api.Base) { b.Num, b.Time, b.Tree = 0, 1, nil }),
		butBase(func(b *api.Base) { b.Num, b.Time = 1<<40+1, 1<<40 }),
		butBase(func(b *api.Base) { b.Tips = dotsIn(one(1)) }),
		butBase(func(b *api.Base) { b.Tips = dotsIn(one(1), one(2)) }),
		butBase(func(b *api.Base) { b.Tips = dotsIn(one(1), two(1), at(2, 2, 1), at(2, 2, 3)) }),
		{F: actors(1 << 20), Tips: actors(1 << 20), Time: 1 << 40},
		{F: actors(1), Tips: actors(1), Time: 1},
		{F: api.Vector{one(64)}, Tips: tips, Time: 1},
		{F: api.Vector{at(15, 4, 1<<20)}, Tips: dotsIn(at(15, 4, 1<<20)), Time: 1, Tree: big()},
	}
}

// wrongDots tells dots that may not be.
func wrongDots() []api.Dot {
	return []api.Dot{
		{}, at(16, 1, 1), at(255, 1, 1), at(0, 0, 1), at(0, 5, 1), at(0, math.MaxUint32, 1), one(0), one(1<<20 + 1), one(math.MaxUint64),
	}
}

// wrongTrees tells trees that may not be.
func wrongTrees() []api.Tree {
	c := counter(5)
	round := api.Tree{has("a", c)}
	round[0].Below = round
	return []api.Tree{
		{has("a")}, {has("", c)}, {has("b", c), has("a", c)}, {has("a", c), has("a", c)}, {has("a", c, c)}, {has("a", api.Leaf{})},
		{over("a", over("b", over("c", has("d", c))))}, {over("a", over("b", has("c", api.Leaf{Type: api.Log, Items: []api.Item{{Dot: one(1)}}})))}, round,
	}
}

// wrongBases tells baselines that may not be, each of one fault.
func wrongBases() []api.Base {
	var tips []api.Dot
	for n := range uint64(65) {
		tips = append(tips, one(n+1))
	}
	l := []api.Base{
		// F is not canonical.
		butBase(func(b *api.Base) { b.F[0], b.F[1] = b.F[1], b.F[0] }),
		butBase(func(b *api.Base) { b.F[1], b.F[2] = b.F[2], b.F[1] }),
		butBase(func(b *api.Base) { b.F = append(b.F, b.F[2]) }),
		butBase(func(b *api.Base) { b.F = append(api.Vector{one(1)}, b.F...) }),
		{F: api.Vector{one(0)}}, {F: api.Vector{{}}}, {F: wrongDots()},
		// Tips: too many, not rising, twice, not within F.
		{F: api.Vector{one(65)}, Tips: tips, Time: 1},
		butBase(func(b *api.Base) { b.Tips = dotsIn(at(2, 2, 4), one(2)) }),
		butBase(func(b *api.Base) { b.Tips = dotsIn(one(2), one(1)) }),
		butBase(func(b *api.Base) { b.Tips = dotsIn(one(1), two(1), one(2)) }),
		butBase(func(b *api.Base) { b.Tips = dotsIn(one(2), one(2)) }),
		butBase(func(b *api.Base) { b.Tips = dotsIn(one(2), two(1), two(1)) }),
		butBase(func(b *api.Base) { b.Tips = dotsIn(one(3)) }),
		butBase(func(b *api.Base) { b.Tips = dotsIn(one(2), two(2)) }),
		butBase(func(b *api.Base) { b.Tips = dotsIn(one(2), at(2, 1, 1)) }),
		butBase(func(b *api.Base) { b.Tips = dotsIn(one(2), at(2, 2, 5)) }),
		butBase(func(b *api.Base) { b.Tips = dotsIn(one(2), at(3, 1, 1)) }),
		// Time.
		butBase(func(b *api.Base) { b.Time = 1<<40 + 1 }),
		butBase(func(b *api.Base) { b.Time = math.MaxUint64 }),
		// Of F, Tips and Time some, others not.
		butBase(func(b *api.Base) { b.Time = 0 }),
		butBase(func(b *api.Base) { b.Tips = nil }),
		butBase(func(b *api.Base) { b.Tips = dotsIn() }),
		butBase(func(b *api.Base) { b.Tips, b.Time = nil, 0 }),
		butBase(func(b *api.Base) { b.F = nil }),
		butBase(func(b *api.Base) { b.F, b.Tips = nil, nil }),
		butBase(func(b *api.Base) { b.F, b.Time = nil, 0 }),
		{Time: 1}, {Time: 1 << 40, Tree: big()}, {Tips: dotsIn(one(1))}, {F: api.Vector{one(1)}},
	}
	for _, d := range wrongDots() {
		l = append(l,
			butBase(func(b *api.Base) { b.F = append(b.F, d) }),
			butBase(func(b *api.Base) { b.F = append(api.Vector{d}, b.F...) }),
			butBase(func(b *api.Base) { b.Tips = dotsIn(d) }),
			butBase(func(b *api.Base) { b.Tips = append(b.Tips, d) }),
			api.Base{F: api.Vector{d}, Tips: dotsIn(d), Time: 1})
	}
	for _, x := range wrongTrees() {
		l = append(l, butBase(func(b *api.Base) { b.Tree = x }), api.Base{Tree: x})
	}
	return l
}

// P12.1: what baselines may be, and that each one makes a graph of it without commits, or ErrForm and none.
func TestNew(t *testing.T) {
	for i, b := range rightBases() {
		g, e := New(b)
		if !MayBase(b) || e != api.OK || g == nil {
			t.Fatalf("%d may be: %v, %d", i, b, e)
		}
		if !sameBase(g.Base(), b) || len(g.Commits()) != 0 || !slices.Equal(g.Heads(), b.Tips) || !slices.Equal(g.VV(), b.F) || g.Time() != b.Time {
			t.Errorf("%d: %v, of %v", i, g, b)
		}
	}
	for i, b := range wrongBases() {
		if g, e := New(b); MayBase(b) || e != api.ErrForm || g != nil {
			t.Errorf("%d may not be: %v, %d", i, b, e)
		}
	}
}

// P12.1: each two and three tips: rising, none twice, each within F, of any Seq that is at most its actor's.
func TestMayTips(t *testing.T) {
	some := []api.Dot{one(1), one(2), one(3), at(0, 2, 1), two(1), two(2), three(1)}
	isIn := []bool{true, true, false, false, true, false, true}
	b := api.Base{F: api.Vector{one(2), two(1), three(5)}, Time: 1}
	for i, x := range some {
		for j, y := range some {
			for k, z := range some {
				b.Tips = dotsIn(x, y, z)
				if MayBase(b) != (i < j && j < k && isIn[i] && isIn[j] && isIn[k]) {
					t.Error(b.Tips)
				}
			}
			b.Tips = dotsIn(x, y)
			if MayBase(b) != (i < j && isIn[i] && isIn[j]) {
				t.Error(b.Tips)
			}
		}
		b.Tips = dotsIn(x)
		if MayBase(b) != isIn[i] {
			t.Error(b.Tips)
		}
	}
}

// P12.1: the document's examples.
func TestExamples(t *testing.T) {
	g := graphOf(t, api.Base{})
	if e := g.Insert(did(one(1), 2, api.Vector{one(1), two(1)}, two(1))); e != api.ErrGap {
		t.Error("a commit whose parent is not there", e)
	}
	c := did(one(1), 1, api.Vector{one(1)})
	if e, f := g.Insert(c), g.Insert(c); e != api.OK || f != api.ErrTwice {
		t.Error("the same commit twice", e, f)
	}
}

// P12.2: of dots within F, of those that are there, and of all others.
func TestHas(t *testing.T) {
	g := graphOf(t, goodBase(), did(one(3), 5, api.Vector{one(3)}, one(2)), did(at(2, 1, 1), 5, api.Vector{at(2, 1, 1)}))
	most := map[api.Actor]uint64{one(1).Actor: 3, two(1).Actor: 1, at(2, 2, 1).Actor: 4, at(2, 1, 1).Actor: 1}
	for rep := range uint8(18) {
		for inc := range uint32(6) {
			for seq := range uint64(7) {
				d := at(rep, inc, seq)
				is := seq > 0 && seq <= most[d.Actor]
				if g.Has(d) != is {
					t.Error(d, !is)
				}
				isThere := d == one(3) || d == at(2, 1, 1)
				c, ok := g.Get(d)
				if ok != isThere || ok && c.Dot != d || !ok && !noCommit(c) {
					t.Error(d, c, ok)
				}
			}
		}
	}
	for _, d := range append(wrongDots(), one(1<<20)) {
		if c, ok := g.Get(d); g.Has(d) || ok || !noCommit(c) {
			t.Error(d, c, ok)
		}
	}
}

// P12.2: a commit that is there is told whole.
func TestGet(t *testing.T) {
	for _, o := range []api.Op{
		add(-5),
		{Kind: api.OpDrop, Path: []string{"a", "bc", "d"}, Text: "xy", Dots: dotsIn(one(1), one(2), two(1))},
		{Kind: api.OpSay, Path: []string{"Z"}, Text: strings.Repeat("\xFF", 40)},
	} {
		c := did(one(3), 1<<40, api.Vector{one(3), two(1)}, one(1), one(2), two(1))
		c.Op = o
		g := graphOf(t, goodBase(), c)
		if got, ok := g.Get(one(3)); !ok || !commit.Same(got, c) || !sameCommits(g.Commits(), []api.Commit{c}) {
			t.Error(got, ok)
		}
	}
}

// P12.2: by Time, then by dots, whatever the order in which they came.
func TestCommits(t *testing.T) {
	var want []api.Commit
	for time := range uint64(3) {
		for _, d := range dotsIn(at(0, 1, time+1), at(0, 2, time+1), at(1, 1, time+1), at(1, 4, time+1), at(2, 1, time+1), at(15, 1, time+1)) {
			c := did(d, time*300+1, api.Vector{d})
			if time > 0 {
				c.Parents = dotsIn(api.Dot{Actor: d.Actor, Seq: time})
			}
			want = append(want, c)
		}
	}
	// A dot of a greater Seq, or of another actor, can be ahead by its time.
	want = slices.Insert(want, 6, did(at(0, 3, 1), 2, api.Vector{at(0, 3, 1)}), did(at(15, 4, 1), 2, api.Vector{at(15, 4, 1)}))
	for actor := range 6 {
		g := graphOf(t, api.Base{})
		for i := range want {
			// Each actor's commits come in their order.
			if e := g.Insert(want[(i*7+actor)%len(want)]); e != api.OK && e != api.ErrGap {
				t.Fatal(e)
			}
		}
		for _, c := range want {
			if e := g.Insert(c); e != api.OK && e != api.ErrTwice {
				t.Fatal(e)
			}
		}
		if got := g.Commits(); !sameCommits(got, want) {
			t.Error(got)
		}
	}
}

// P12.2: heads are commits and tips that none of the others has behind it.
func TestHeads(t *testing.T) {
	b := api.Base{F: api.Vector{one(2), two(3), three(1)}, Tips: dotsIn(one(2), two(1), two(3), three(1)), Time: 1}
	g := graphOf(t, b)
	for i, x := range []struct {
		c    api.Commit
		want []api.Dot
	}{
		// A tip stays, if it is within no VV, even if one of its actor's comes beside it.
		{did(at(3, 1, 1), 1, api.Vector{at(3, 1, 1)}), dotsIn(one(2), two(1), two(3), three(1), at(3, 1, 1))},
		// It goes, if it is within a VV, a parent or not.
		{did(one(3), 2, api.Vector{one(3), two(1)}, two(1)), dotsIn(one(3), two(3), three(1), at(3, 1, 1))},
		{did(at(3, 1, 2), 2, api.Vector{two(2), at(3, 1, 2)}, at(3, 1, 1)), dotsIn(one(3), two(3), three(1), at(3, 1, 2))},
		{did(one(4), 3, api.Vector{one(4), two(1)}, one(3)), dotsIn(one(4), two(3), three(1), at(3, 1, 2))},
		// A commit beside another one that has the same parent.
		{did(at(4, 1, 1), 3, api.Vector{one(3), two(1), at(4, 1, 1)}, one(3)), dotsIn(one(4), two(3), three(1), at(3, 1, 2), at(4, 1, 1))},
		// A commit is behind a commit of another actor.
		{did(at(5, 1, 1), 4, api.Vector{one(4), two(3), three(1), at(4, 1, 1), at(5, 1, 1)}, one(4), two(3), three(1), at(4, 1, 1)), dotsIn(at(3, 1, 2), at(5, 1, 1))},
	} {
		if e := g.Insert(x.c); e != api.OK || !slices.Equal(g.Heads(), x.want) {
			t.Error(i, e, g.Heads())
		}
	}
}

// P12.2: heads rise: by Rep, by Inc, by Seq, tips and commits among each other.
func TestHeadsRise(t *testing.T) {
	b := api.Base{F: api.Vector{at(0, 2, 3), at(2, 1, 1), at(15, 4, 1)}, Tips: dotsIn(at(0, 2, 1), at(0, 2, 3), at(2, 1, 1), at(15, 4, 1)), Time: 9}
	g := graphOf(t, b)
	for _, d := range dotsIn(at(15, 3, 1), at(1, 1, 1), at(0, 3, 1), at(2, 2, 1), at(0, 1, 1)) {
		if e := g.Insert(did(d, 7, api.Vector{d})); e != api.OK {
			t.Fatal(e)
		}
	}
	want := dotsIn(at(0, 1, 1), at(0, 2, 1), at(0, 2, 3), at(0, 3, 1), at(1, 1, 1), at(2, 1, 1), at(2, 2, 1), at(15, 3, 1), at(15, 4, 1))
	if !slices.Equal(g.Heads(), want) {
		t.Error(g.Heads())
	}
}

// P12.2: F and the VVs joined; the greatest of all times.
func TestVVAndTime(t *testing.T) {
	g := graphOf(t, goodBase())
	for i, x := range []struct {
		c    api.Commit
		vv   api.Vector
		time uint64
	}{
		{did(three(1), 1, api.Vector{three(1)}), api.Vector{one(2), two(1), three(1), at(2, 2, 4)}, 4},
		{did(one(3), 4, api.Vector{one(3)}, one(1)), api.Vector{one(3), two(1), three(1), at(2, 2, 4)}, 4},
		{did(one(4), 9, api.Vector{one(4), two(1), three(1)}, one(3), three(1)), api.Vector{one(4), two(1), three(1), at(2, 2, 4)}, 9},
		{did(at(0, 2, 1), 8, api.Vector{at(0, 2, 1)}), api.Vector{one(4), at(0, 2, 1), two(1), three(1), at(2, 2, 4)}, 9},
		{did(at(15, 4, 1), 1<<40, api.Vector{at(15, 4, 1)}), api.Vector{one(4), at(0, 2, 1), two(1), three(1), at(2, 2, 4), at(15, 4, 1)}, 1 << 40},
	} {
		if e := g.Insert(x.c); e != api.OK || !slices.Equal(g.VV(), x.vv) || g.Time() != x.time {
			t.Error(i, e, g.VV(), g.Time())
		}
		if !sameBase(g.Base(), goodBase()) {
			t.Error(i, g.Base())
		}
	}
}

// same tells whether two graphs tell the same.
func same(g, h *Graph) bool {
	return sameBase(g.Base(), h.Base()) && sameCommits(g.Commits(), h.Commits()) && slices.Equal(g.Heads(), h.Heads()) && slices.Equal(g.VV(), h.VV()) && g.Time() == h.Time()
}

// P12.2: a copy is just like it, and goes its own way, as the first one does.
func TestCopy(t *testing.T) {
	for _, b := range rightBases() {
		g := graphOf(t, b)
		if h := g.Copy(); h == nil || !same(g, h) {
			t.Fatal(h)
		}
	}
	g := graphOf(t, goodBase(), did(one(3), 5, api.Vector{one(3)}, one(2)))
	h := g.Copy()
	if !same(g, h) || !h.Has(one(3)) {
		t.Error(h)
	}
	c, d := did(one(4), 6, api.Vector{one(4)}, one(3)), did(two(2), 7, api.Vector{two(2)}, two(1))
	if e, f := h.Insert(c), g.Insert(d); e != api.OK || f != api.OK {
		t.Fatal(e, f)
	}
	if g.Has(c.Dot) || !h.Has(c.Dot) || !g.Has(d.Dot) || h.Has(d.Dot) || len(g.Commits()) != 2 || len(h.Commits()) != 2 {
		t.Error(g.Commits(), h.Commits())
	}
	if e, f := h.Insert(d), g.Insert(c); e != api.OK || f != api.OK || !same(g, h) {
		t.Error(e, f)
	}
	i := h.Copy().Copy()
	if e := i.Insert(did(one(5), 7, api.Vector{one(5)}, one(4))); e != api.OK || h.Has(one(5)) || g.Has(one(5)) || !i.Has(one(5)) {
		t.Error(e)
	}
}

// Rules, P1: a graph that is not there, or was not made, tells ErrNil, or nothing.
func TestNotMade(t *testing.T) {
	for _, g := range []*Graph{nil, {}, new(Graph)} {
		for _, c := range []api.Commit{{}, did(one(1), 1, api.Vector{one(1)}), did(one(2), 1, nil, one(1))} {
			if e := g.Insert(c); e != api.ErrNil {
				t.Error(e)
			}
			if c, ok := g.Get(c.Dot); ok || !noCommit(c) || g.Has(c.Dot) {
				t.Error(c, ok)
			}
		}
		if len(g.Commits())+len(g.Heads())+len(g.VV()) != 0 || g.Time() != 0 || !sameBase(g.Base(), api.Base{}) || g.Copy() != nil {
			t.Error(g.Commits(), g.Heads(), g.VV(), g.Time(), g.Base(), g.Copy())
		}
	}
}
