package merge

import (
	"math/rand"
	"slices"
	"testing"

	"varve/api"
	"varve/commit"
	"varve/dot"
	"varve/graph"
	"varve/tree"
)

// plain is what a graph has, as the document's words say it: its F, its baseline's tree, its commits as they came.
type plain struct {
	f api.Vector
	t api.Tree
	l []api.Commit
}

// get tells the commit of a dot, and whether it is there.
func (p plain) get(d api.Dot) (api.Commit, bool) {
	i := slices.IndexFunc(p.l, func(c api.Commit) bool { return c.Dot == d })
	if i < 0 {
		return api.Commit{}, false
	}
	return p.l[i], true
}

// there tells those of some dots whose commits are there, rising, each once.
func (p plain) there(dots []api.Dot) []api.Dot {
	var l []api.Dot
	for _, d := range dots {
		if _, is := p.get(d); is && !slices.Contains(l, d) {
			l = append(l, d)
		}
	}
	slices.SortFunc(l, dot.Compare)
	return l
}

// isWithin tells whether a dot is within a vector.
func isWithin(d api.Dot, v api.Vector) bool {
	return slices.ContainsFunc(v, func(x api.Dot) bool { return x.Actor == d.Actor && x.Seq >= d.Seq })
}

// lifted tells the commits within the lifted history of some commits, as the document's words say it: by vectors.
func (p plain) lifted(dots []api.Dot) []api.Commit {
	know := slices.Clone(p.f)
	for _, d := range dots {
		c, _ := p.get(d)
		know = append(know, c.VV...)
	}
	var l []api.Commit
	for _, c := range p.l {
		if isWithin(c.Dot, know) {
			l = append(l, c)
		}
	}
	slices.SortFunc(l, func(a, b api.Commit) int {
		if a.Time != b.Time {
			return int(a.Time) - int(b.Time)
		}
		return dot.Compare(a.Dot, b.Dot)
	})
	return l
}

// declared is what P14.3 says of a merged state: the baseline's tree with the events of all commits within the lifted history.
func (p plain) declared(dots []api.Dot) api.Tree {
	t := p.t
	for _, c := range p.lifted(dots) {
		t, _ = tree.Apply(t, commit.Event(c))
	}
	return t
}

// bases is the document's words for bases: the greatest commits that both sides have behind them.
func (p plain) bases(a []api.Dot, b api.Dot) []api.Dot {
	shared := p.lifted(a)
	other := p.lifted([]api.Dot{b})
	shared = slices.DeleteFunc(shared, func(c api.Commit) bool {
		return !slices.ContainsFunc(other, func(o api.Commit) bool { return o.Dot == c.Dot })
	})
	var l []api.Dot
	for _, c := range shared {
		if !slices.ContainsFunc(shared, func(o api.Commit) bool { return o.Dot != c.Dot && isWithin(c.Dot, o.VV) }) {
			l = append(l, c.Dot)
		}
	}
	return l
}

// maker makes graphs and what is asked of them, of bytes.
type maker struct{ b []byte }

// below takes a byte and tells a number below n.
func (m *maker) below(n int) int {
	if len(m.b) == 0 {
		return 0
	}
	x := m.b[0]
	m.b = m.b[1:]
	return int(x) % n
}

// actor tells one of few actors.
func (m *maker) actor() api.Actor {
	return api.Actor{Rep: uint8(m.below(4)), Inc: uint32(m.below(4)/3 + 1)}
}

// dot tells a dot of few.
func (m *maker) dot() api.Dot { return api.Dot{Actor: m.actor(), Seq: uint64(m.below(5) + 1)} }

// op tells an operation; one that drops drops dots within a vector, whether their puts were at its path or not.
func (m *maker) op(v api.Vector) api.Op {
	o := api.Op{Kind: uint8(m.below(5) + 1), Path: [][]string{{"a"}, {"b"}, {"a", "b"}, {"b", "a", "c"}}[m.below(4)]}
	switch o.Kind {
	case api.OpAdd:
		o.N = int64(m.below(256)) - 100
	case api.OpDrop:
		for range m.below(6) {
			if d := m.dot(); isWithin(d, v) {
				o.Dots = append(o.Dots, d)
			}
		}
		slices.SortFunc(o.Dots, dot.Compare)
		o.Dots = slices.Compact(o.Dots)
	default:
		o.Text = string(rune('a' + m.below(3)))
	}
	return o
}

// ground tells the tree behind events of some dots within a vector, now and then purged.
func (m *maker) ground(f api.Vector) api.Tree {
	var t api.Tree
	for _, d := range f {
		for n := range d.Seq {
			t, _ = tree.Apply(t, api.Event{Dot: api.Dot{Actor: d.Actor, Seq: n + 1}, Time: uint64(m.below(3) + 1), Op: m.op(f)})
		}
	}
	if m.below(2) == 0 {
		t, _ = tree.Purge(t)
	}
	return t
}

// graph tells a graph above a baseline, both made of bytes, and what it has.
func (m *maker) graph(t *testing.T) (*graph.Graph, plain) {
	var p plain
	for range m.below(4) {
		p.f = append(p.f, api.Dot{Actor: m.actor(), Seq: uint64(m.below(3) + 1)})
	}
	p.f = dot.Canon(p.f)
	p.t = m.ground(p.f)
	g := graphOf(t, p.t, p.f...)
	for range m.below(30) {
		c := m.commit(p)
		if e := g.Insert(c); e != api.OK {
			t.Fatalf("Insert(%v): %d, into %v", c, e, p)
		}
		p.l = append(p.l, c)
	}
	return g, p
}

// knows tells whether the commit of a dot is there, and has another dot within its VV.
func (p plain) knows(d, other api.Dot) bool {
	c, _ := p.get(d)
	return isWithin(other, c.VV)
}

// commit tells a commit that can stand on what is there: on its actor's last one, and on few others, none of them behind another one.
func (m *maker) commit(p plain) api.Commit {
	a := m.actor()
	some := slices.Clone(p.f)
	var parents []api.Dot
	for _, x := range p.l {
		if some = append(some, x.Dot); x.Dot.Actor == a {
			parents = []api.Dot{x.Dot}
		}
	}
	for range min(m.below(4), len(some)) {
		// Later commits are taken more often: ways get long.
		d := some[max(m.below(len(some)), m.below(len(some)))]
		if !slices.ContainsFunc(parents, func(o api.Dot) bool { return d == o || p.knows(d, o) || p.knows(o, d) }) {
			parents = append(parents, d)
		}
	}
	slices.SortFunc(parents, dot.Compare)
	c := api.Commit{Parents: parents, Time: uint64(m.below(3) + 1)}
	know := slices.Clone(parents)
	for _, d := range parents {
		x, _ := p.get(d)
		know, c.Time = append(know, x.VV...), max(c.Time, x.Time+1)
	}
	if m.below(3) == 0 && len(p.f) > 0 {
		know = append(know, p.f[m.below(len(p.f)):]...)
	}
	c.Dot = api.Dot{Actor: a, Seq: max(dot.Get(dot.Canon(know), a), dot.Get(p.f, a)) + 1}
	know = dot.Canon(know)
	c.VV, c.Op = dot.Join(know, api.Vector{c.Dot}), m.op(know)
	return c
}

// dots tells few dots, most of them of commits that are there.
func (m *maker) dots(p plain) []api.Dot {
	var l []api.Dot
	for range m.below(7) {
		if len(p.l) > 0 && m.below(30) > 0 {
			l = append(l, p.l[m.below(len(p.l))].Dot)
		} else {
			l = append(l, m.dot())
		}
	}
	return l
}

// check checks the merged state of some dots: by the events behind them, and by its last step.
func (p plain) check(t *testing.T, g *graph.Graph, dots []api.Dot) {
	t.Helper()
	h := roomy(dots)
	got, e := State(g, h)
	if !whole(h, dots) {
		t.Fatalf("changed: %v", dots)
	}
	there := p.there(dots)
	if slices.ContainsFunc(dots, func(d api.Dot) bool { return !slices.Contains(there, d) }) {
		if e != api.ErrNone || got != nil {
			t.Fatalf("State(%v) = %v, %d, in %v", dots, got, e, p)
		}
		return
	}
	if want := p.declared(there); e != api.OK || !tree.Same(got, want) {
		t.Fatalf("State(%v) = %v, %d, not %v, in %v", dots, got, e, want, p)
	}
	if len(there) < 2 {
		return
	}
	last := len(there) - 1
	virtual, e1 := State(g, p.bases(there[:last], there[last]))
	first, e2 := State(g, there[:last])
	next, e3 := Commit(g, there[last])
	if want, e := tree.Merge(virtual, first, next); e1+e2+e3+e != api.OK || !tree.Same(got, want) {
		t.Fatalf("State(%v) = %v, not %v, in %v", dots, got, want, p)
	}
}

// alone checks the state of a commit that may be there: by its parents' merged state.
func (p plain) alone(t *testing.T, g *graph.Graph, d api.Dot) {
	t.Helper()
	got, e := Commit(g, d)
	c, is := p.get(d)
	if !is {
		if e != api.ErrNone || got != nil {
			t.Fatalf("Commit(%v) = %v, %d, in %v", d, got, e, p)
		}
		return
	}
	on, e1 := State(g, p.there(c.Parents))
	if want, e2 := tree.Apply(on, commit.Event(c)); e+e1+e2 != api.OK || !tree.Same(got, want) {
		t.Fatalf("Commit(%v) = %v, %d, not %v, in %v", d, got, e, want, p)
	}
	p.check(t, g, []api.Dot{d})
}

// P14.1, P14.2, P14.3, P1: of graphs and dots that bytes make all calls are as the document's words are.
func FuzzMerge(f *testing.F) {
	r := rand.New(rand.NewSource(6))
	for range 1000 {
		b := make([]byte, r.Intn(1000))
		r.Read(b)
		f.Add(b)
	}
	f.Fuzz(func(t *testing.T, b []byte) {
		m := &maker{b}
		g, p := m.graph(t)
		was := g.Copy()
		for range 5 {
			p.check(t, g, m.dots(p))
			p.alone(t, g, m.dot())
		}
		for _, c := range p.l {
			p.alone(t, g, c.Dot)
		}
		var all []api.Dot
		for _, c := range p.l {
			all = append(all, c.Dot)
		}
		got, e := Heads(g)
		if want := p.declared(all); e != api.OK || !tree.Same(got, want) || !sameGraph(g, was) {
			t.Fatalf("Heads() = %v, %d, not %v, in %v", got, e, want, p)
		}
		p.check(t, g, p.there(g.Heads()))
		p.check(t, g, all)
	})
}
