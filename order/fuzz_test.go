package order

import (
	"math/rand"
	"slices"
	"testing"

	"varve/api"
	"varve/base"
	"varve/commit"
	"varve/dot"
	"varve/graph"
	"varve/merge"
)

// plainIn is the document's words for a dot within a vector.
func plainIn(d api.Dot, v api.Vector) bool {
	return slices.ContainsFunc(v, func(x api.Dot) bool {
		return x.Rep <= 15 && x.Inc >= 1 && x.Inc <= 4 && x.Seq <= 1<<20 && x.Actor == d.Actor && x.Seq >= d.Seq
	})
}

// plainAhead is the document's words for a commit that is ahead of another one: by Time, then by its dot's Rep, Inc and Seq.
func plainAhead(a, b api.Commit) bool {
	if a.Time != b.Time {
		return a.Time < b.Time
	}
	if a.Dot.Rep != b.Dot.Rep {
		return a.Dot.Rep < b.Dot.Rep
	}
	if a.Dot.Inc != b.Dot.Inc {
		return a.Dot.Inc < b.Dot.Inc
	}
	return a.Dot.Seq < b.Dot.Seq
}

// plainLacks is the document's words for what a vector lacks of commits: again and again the one that is ahead of all that are left.
func plainLacks(l []api.Commit, v api.Vector, most int) []api.Commit {
	left := slices.DeleteFunc(slices.Clone(l), func(c api.Commit) bool { return plainIn(c.Dot, v) })
	var all []api.Commit
	for len(left) > 0 && len(all) < most {
		first := 0
		for i, c := range left {
			if plainAhead(c, left[first]) {
				first = i
			}
		}
		all = append(all, left[first])
		left = slices.Delete(left, first, first+1)
	}
	return all
}

// maker makes graphs and what is asked of them, of bytes.
type maker struct{ b []byte }

// below takes a byte and tells a number below n.
func (m *maker) below(n int) int {
	if len(m.b) == 0 {
		return 0
	}
	x := m.b[0]
	m.b = m.b[1:]
	return int(x) % n
}

// actor tells one of few actors.
func (m *maker) actor() api.Actor {
	return api.Actor{Rep: uint8(m.below(4) * 5), Inc: uint32(m.below(4)/3 + 1)}
}

// commit tells a commit that can stand on others: on its actor's last one, and on few more, none of them behind another one.
func (m *maker) commit(l []api.Commit) api.Commit {
	c := api.Commit{Dot: api.Dot{Actor: m.actor(), Seq: 1}, Time: uint64(m.below(6) + 1), Op: api.Op{Kind: api.OpSay, Path: []string{"a"}, Text: "x"}}
	var on []api.Commit
	for _, x := range l {
		if x.Dot.Actor == c.Dot.Actor {
			on, c.Dot.Seq = []api.Commit{x}, x.Dot.Seq+1
		}
	}
	for range min(m.below(4), len(l)) {
		// Later commits are taken more often: ways get long.
		x := l[max(m.below(len(l)), m.below(len(l)))]
		if !slices.ContainsFunc(on, func(o api.Commit) bool { return plainIn(x.Dot, o.VV) || plainIn(o.Dot, x.VV) }) {
			on = append(on, x)
		}
	}
	all := vector(c.Dot)
	for _, x := range on {
		c.Parents = append(c.Parents, x.Dot)
		all, c.Time = append(all, x.VV...), max(c.Time, x.Time+1)
	}
	slices.SortFunc(c.Parents, dot.Compare)
	c.VV = dot.Canon(all)
	return c
}

// history tells commits that stand on nothing but each other, each behind those that it stands on.
func (m *maker) history() []api.Commit {
	var l []api.Commit
	for range m.below(40) {
		l = append(l, m.commit(l))
	}
	return l
}

// known tells the vector of what some of the commits have behind them: one of few, or of many.
func (m *maker) known(l []api.Commit) api.Vector {
	var all api.Vector
	few := m.below(3)*5 + 2
	for _, c := range l {
		if m.below(few) == 0 {
			all = append(all, c.VV...)
		}
	}
	return dot.Canon(all)
}

// vector tells a vector, canonical or not: of few dots, and of what some commits know.
func (m *maker) vector(l []api.Commit) api.Vector {
	v := m.known(l)
	for range m.below(4) {
		d := api.Dot{Actor: m.actor(), Seq: uint64(m.below(9))}
		if m.below(9) == 0 {
			d = at(uint8(m.below(20)), uint32(m.below(6)), uint64(m.below(3))<<20)
		}
		v = slices.Insert(v, m.below(len(v)+1), d)
	}
	return v
}

// replica tells the graph of one that has all commits within a vector, those within f as its baseline: both are whole histories.
func replica(t *testing.T, l []api.Commit, f, has api.Vector) *graph.Graph {
	t.Helper()
	whole, b := graphOf(t), api.Base{F: f}
	for _, c := range l {
		if plainIn(c.Dot, f) {
			insert(t, whole, c)
			b.Num, b.Time = 1, max(b.Time, c.Time)
		}
	}
	b.Tips = base.Within(whole, f)
	b.Tree, _ = merge.Heads(whole)
	g, e := graph.New(b)
	if e != api.OK {
		t.Fatalf("New(%v): %d", b, e)
	}
	for _, c := range l {
		if plainIn(c.Dot, has) && !plainIn(c.Dot, f) {
			insert(t, g, c)
		}
	}
	return g
}

func insert(t *testing.T, g *graph.Graph, c api.Commit) {
	t.Helper()
	if e := g.Insert(c); e != api.OK {
		t.Fatalf("Insert(%v): %d, into %v", c, e, g.Commits())
	}
}

// catchUp checks that one that has all that the other one's baseline has can insert what it lacks, batch by batch, till it has all.
func catchUp(t *testing.T, from, to *graph.Graph, most int) {
	t.Helper()
	lacking := len(Lacks(from, to.VV(), 200))
	for left := lacking; left > 0; left -= min(left, most) {
		l := Lacks(from, to.VV(), most)
		if len(l) != min(left, most) {
			t.Fatalf("%d of %d: %v", len(l), left, l)
		}
		for _, c := range l {
			insert(t, to, c)
		}
	}
	if l := Lacks(from, to.VV(), 200); len(l) > 0 || !dot.Within(from.VV(), to.VV()) {
		t.Fatalf("%v is lacked yet", l)
	}
}

// P15.2: one after the other, commits stand on what there is and on those ahead of them; of a vector of less than is there, some are there already.
func TestInsert(t *testing.T) {
	g := some(t)
	h := graphOf(t, of(9, 2), at(9, 2, 1))
	for _, d := range dotsIn(of(0, 1), of(1, 1), of(1, 2)) {
		c, _ := g.Get(d)
		insert(t, h, c)
	}
	for _, x := range []struct {
		v   api.Vector
		not int
	}{
		{h.VV(), 0},
		{vector(of(0, 1), of(1, 2)), 0},
		{vector(of(1, 2)), 1},
		{vector(of(0, 1), of(1, 1)), 1},
		{vector(of(9, 2), at(9, 2, 1)), 3},
		{nil, 3},
	} {
		to, not := h.Copy(), 0
		for _, c := range Lacks(g, x.v, 99) {
			e := to.Insert(c)
			if e == api.ErrTwice {
				not++
			} else if e != api.OK {
				t.Error(x.v, c, e)
			}
		}
		if not != x.not || !sameGraph(to, g) {
			t.Error(x.v, not, to.Commits())
		}
	}
	// One that lacks the baseline, too, has not what they stand on.
	for i, c := range Lacks(g, nil, 99) {
		if e := graphOf(t).Insert(c); (e == api.OK) != (i == 1 || i == 7) {
			t.Error(c, e)
		}
	}
}

// P15.1, P15.2, P1: of graphs and vectors that bytes make, as the document's words are; what is told can be put in.
func FuzzOrder(f *testing.F) {
	r := rand.New(rand.NewSource(7))
	for range 2000 {
		b := make([]byte, r.Intn(1000))
		r.Read(b)
		f.Add(b)
	}
	f.Fuzz(func(t *testing.T, b []byte) {
		m := &maker{b}
		l := m.history()
		ground := m.known(l)
		has := dot.Join(ground, m.known(l))
		g := replica(t, l, ground, has)
		was, there := g.Copy(), g.Commits()
		for range 6 {
			v, most := m.vector(l), m.below(44)-2
			h := roomy(v)
			if got, want := Lacks(g, h, most), plainLacks(there, v, most); !slices.EqualFunc(got, want, commit.Same) || !whole(h, v) {
				t.Fatalf("Lacks(%v, %d) = %v, not %v", v, most, got, want)
			}
		}
		for _, x := range l[:min(9, len(l))] {
			for _, y := range l {
				if Ahead(x, y) != plainAhead(x, y) || Ahead(y, x) != plainAhead(y, x) {
					t.Fatal(x, y)
				}
			}
		}
		// Others have all that its baseline has: above nothing, above less, above the same, above more.
		less, mine, most := m.known(l), dot.Join(ground, m.known(l)), m.below(12)+1
		for _, other := range []api.Vector{nil, dot.Meet(less, ground), ground, mine} {
			catchUp(t, g, replica(t, l, other, mine), most)
		}
		if !sameGraph(g, was) {
			t.Fatal("changed")
		}
	})
}
