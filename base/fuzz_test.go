package base

import (
	"math/rand"
	"slices"
	"testing"

	"varve/api"
	"varve/graph"
)

// numbers is what a vector stands for.
type numbers map[api.Actor]uint64

// stands is the document's words for what vectors, joined, stand for.
func stands(l ...api.Vector) numbers {
	n := numbers{}
	for _, v := range l {
		for _, d := range v {
			if d.Rep <= 15 && d.Inc >= 1 && d.Inc <= 4 && d.Seq <= 1<<20 {
				n[d.Actor] = max(n[d.Actor], d.Seq)
			}
		}
	}
	return n
}

// within tells whether numbers are within others.
func (n numbers) within(other numbers) bool {
	for a, seq := range n {
		if seq > other[a] {
			return false
		}
	}
	return true
}

// vector tells the canonical vector of numbers.
func (n numbers) vector() api.Vector {
	var v api.Vector
	for i := range 64 {
		a := api.Actor{Rep: uint8(i / 4), Inc: uint32(i%4 + 1)}
		if n[a] > 0 {
			v = append(v, api.Dot{Actor: a, Seq: n[a]})
		}
	}
	return v
}

// rising tells dots, rising.
func rising(l []api.Dot) []api.Dot {
	slices.SortFunc(l, func(a, b api.Dot) int {
		if a.Rep < b.Rep || a.Rep == b.Rep && (a.Inc < b.Inc || a.Inc == b.Inc && a.Seq < b.Seq) {
			return -1
		}
		return 1
	})
	return l
}

// plain is the document's words for a graph: its F, and its commits.
type plain struct {
	f api.Vector
	l []api.Commit
}

// lifted is the document's words for a lifted history.
func (p plain) lifted(dots []api.Dot) numbers {
	all := []api.Vector{p.f}
	for _, c := range p.l {
		if slices.Contains(dots, c.Dot) {
			all = append(all, c.VV)
		}
	}
	return stands(all...)
}

// greatest is the document's words for the greatest commits within a vector.
func (p plain) greatest(v api.Vector) []api.Dot {
	most := stands(v, p.f)
	var in []api.Commit
	for _, c := range p.l {
		if stands(c.VV).within(most) {
			in = append(in, c)
		}
	}
	var l []api.Dot
	for _, c := range in {
		isWithin := func(o api.Commit) bool { return o.Dot != c.Dot && c.Dot.Seq <= stands(o.VV)[c.Dot.Actor] }
		if !slices.ContainsFunc(in, isWithin) {
			l = append(l, c.Dot)
		}
	}
	return rising(l)
}

// bases is the document's words for bases.
func (p plain) bases(a []api.Dot, b api.Dot) []api.Dot {
	x, y := p.lifted(a), p.lifted([]api.Dot{b})
	meet := numbers{}
	for actor := range x {
		meet[actor] = min(x[actor], y[actor])
	}
	return p.greatest(meet.vector())
}

// isAncestor tells whether a commit is an ancestor of another one, by parents.
func (p plain) isAncestor(d, of api.Dot) bool {
	for _, c := range p.l {
		if c.Dot == of {
			return d == of || slices.ContainsFunc(c.Parents, func(p1 api.Dot) bool { return p.isAncestor(d, p1) })
		}
	}
	return false
}

// knows tells whether the commit of a dot is there, and has another dot within its VV.
func (p plain) knows(d, other api.Dot) bool {
	return slices.ContainsFunc(p.l, func(c api.Commit) bool { return c.Dot == d && other.Seq <= stands(c.VV)[other.Actor] })
}

// maker makes graphs and what is asked of them, of bytes.
type maker struct{ b []byte }

// below takes a byte and tells a number below n.
func (m *maker) below(n int) int {
	if len(m.b) == 0 {
		return 0
	}
	x := m.b[0]
	m.b = m.b[1:]
	return int(x) % n
}

// actor tells one of few actors.
func (m *maker) actor() api.Actor {
	return api.Actor{Rep: uint8(m.below(4) * 5), Inc: uint32(m.below(4)/3 + 1)}
}

// dot tells a dot of few, now and then one that may not be.
func (m *maker) dot() api.Dot {
	if m.below(30) == 29 {
		return at(uint8(m.below(20)), uint32(m.below(6)), uint64(m.below(3))<<20)
	}
	return api.Dot{Actor: m.actor(), Seq: uint64(m.below(5) + 1)}
}

// graph tells a graph above a baseline, both made of bytes, and what it is by the document's words.
func (m *maker) graph(t *testing.T) (*graph.Graph, plain) {
	var f []api.Dot
	for range m.below(4) {
		f = append(f, api.Dot{Actor: m.actor(), Seq: uint64(m.below(3) + 1)})
	}
	p := plain{f: stands(f).vector()}
	g := graphOf(t, p.f...)
	for range m.below(24) {
		c := m.commit(p)
		if e := g.Insert(c); e != api.OK {
			t.Fatalf("Insert(%v): %d, into %v", c, e, p)
		}
		p.l = append(p.l, c)
	}
	return g, p
}

// commit tells a commit that can stand on what is there: on its actor's last one, and on few others, none of them behind another one.
func (m *maker) commit(p plain) api.Commit {
	c := api.Commit{Dot: api.Dot{Actor: m.actor()}, Time: uint64(m.below(3) + 1), Op: api.Op{Kind: api.OpSay, Path: []string{"a"}, Text: "x"}}
	some := slices.Clone(p.f)
	for _, x := range p.l {
		if some = append(some, x.Dot); x.Dot.Actor == c.Dot.Actor {
			c.Parents = []api.Dot{x.Dot}
		}
	}
	for range min(m.below(4), len(some)) {
		// Later commits are taken more often: ways get long.
		d := some[max(m.below(len(some)), m.below(len(some)))]
		if !slices.ContainsFunc(c.Parents, func(o api.Dot) bool { return d == o || p.knows(d, o) || p.knows(o, d) }) {
			c.Parents = append(c.Parents, d)
		}
	}
	vectors := []api.Vector{rising(c.Parents)}
	for _, x := range p.l {
		if slices.Contains(c.Parents, x.Dot) {
			vectors, c.Time = append(vectors, x.VV), max(c.Time, x.Time+1)
		}
	}
	if m.below(3) == 0 && len(p.f) > 0 {
		vectors = append(vectors, p.f[m.below(len(p.f)):])
	}
	n := stands(vectors...)
	c.Dot.Seq = max(n[c.Dot.Actor], stands(p.f)[c.Dot.Actor]) + 1
	n[c.Dot.Actor] = c.Dot.Seq
	c.VV = n.vector()
	return c
}

// dots tells few dots, most of them of commits that are there.
func (m *maker) dots(p plain) []api.Dot {
	var l []api.Dot
	for range m.below(4) {
		if len(p.l) > 0 && m.below(5) > 0 {
			l = append(l, p.l[m.below(len(p.l))].Dot)
		} else {
			l = append(l, m.dot())
		}
	}
	return l
}

// vector tells a vector, canonical or not: of few dots, or of what some commits know.
func (m *maker) vector(p plain) api.Vector {
	var v api.Vector
	for range m.below(3) {
		v = append(v, m.dot())
	}
	for _, c := range p.l {
		if m.below(4) == 0 {
			v = append(v, c.VV[m.below(2):]...)
		}
	}
	return v
}

// follows checks what P13.3 says of bases: by parents, not by vectors.
func (p plain) follows(t *testing.T, bases, a []api.Dot, b api.Dot) {
	t.Helper()
	x, y := p.lifted(a), p.lifted([]api.Dot{b})
	f, there := stands(p.f), map[api.Dot]int{}
	for _, c := range p.l {
		there[c.Dot]++
		isBehind := func(d api.Dot) bool { return p.isAncestor(c.Dot, d) }
		isShared := slices.ContainsFunc(a, isBehind) && isBehind(b)
		// All that is shared is an ancestor of bases, and nothing else is.
		if isShared != slices.ContainsFunc(bases, isBehind) {
			t.Fatalf("%v, of %v and %v, in %v", c, a, b, p)
		}
		n := 0
		for _, d := range bases {
			if isBehind(d) {
				n++
			}
		}
		if slices.Contains(bases, c.Dot) && n != 1 {
			t.Fatalf("%v is an ancestor of another base: %v", c, bases)
		}
	}
	for actor := range x {
		for seq := uint64(1); seq <= min(x[actor], y[actor]); seq++ {
			if there[api.Dot{Actor: actor, Seq: seq}] == 0 && seq > f[actor] {
				t.Fatalf("%v: %d is shared, and nowhere", actor, seq)
			}
		}
	}
}

// P13.1, P13.2, P13.3, P1: of graphs, dots and vectors that bytes make all calls are as the document's words are.
func FuzzBase(f *testing.F) {
	r := rand.New(rand.NewSource(5))
	for range 2500 {
		b := make([]byte, r.Intn(1000))
		r.Read(b)
		f.Add(b)
	}
	f.Fuzz(func(t *testing.T, b []byte) {
		m := &maker{b}
		g, p := m.graph(t)
		for range 12 {
			a, v := m.dots(p), m.vector(p)
			l := append(m.dots(p), m.dot())
			last := l[0]
			if got := Lifted(g, a); !slices.Equal(got, p.lifted(a).vector()) {
				t.Fatalf("Lifted(%v) = %v, not %v, in %v", a, got, p.lifted(a), p)
			}
			if got, want := Within(g, v), p.greatest(v); !slices.Equal(got, want) {
				t.Fatalf("Within(%v) = %v, not %v, in %v", v, got, want, p)
			}
			got, want := Of(g, a, last), p.bases(a, last)
			if !slices.Equal(got, want) {
				t.Fatalf("Of(%v, %v) = %v, not %v, in %v", a, last, got, want, p)
			}
			p.follows(t, got, a, last)
		}
	})
}
