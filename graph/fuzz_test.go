package graph

import (
	"math/rand"
	"slices"
	"testing"

	"varve/api"
	"varve/commit"
)

// plain is the document's words for a graph: its baseline, and its commits as they came.
type plain struct {
	b api.Base
	l []api.Commit
}

// plainDot is the document's words for a dot that may be.
func plainDot(d api.Dot) bool {
	return d.Rep <= 15 && d.Inc >= 1 && d.Inc <= 4 && d.Seq >= 1 && d.Seq <= 1<<20
}

// plainLess tells whether a dot is ahead of another one.
func plainLess(a, b api.Dot) bool {
	return a.Rep < b.Rep || a.Rep == b.Rep && (a.Inc < b.Inc || a.Inc == b.Inc && a.Seq < b.Seq)
}

// plainNumbers is the document's words for what vectors, joined, stand for.
func plainNumbers(l ...api.Vector) map[api.Actor]uint64 {
	n := map[api.Actor]uint64{}
	for _, v := range l {
		for _, d := range v {
			if plainDot(d) {
				n[d.Actor] = max(n[d.Actor], d.Seq)
			}
		}
	}
	return n
}

// plainIn tells whether a dot is within a vector.
func plainIn(d api.Dot, v api.Vector) bool {
	return plainDot(d) && d.Seq <= plainNumbers(v)[d.Actor]
}

// plainVector tells the canonical vector of numbers.
func plainVector(n map[api.Actor]uint64) api.Vector {
	var v api.Vector
	for _, d := range actors(1) {
		if n[d.Actor] > 0 {
			v = append(v, api.Dot{Actor: d.Actor, Seq: n[d.Actor]})
		}
	}
	return v
}

// plainMayBase is the document's words for a baseline that may be, whose tree may be.
func plainMayBase(b api.Base) bool {
	ok := slices.Equal(b.F, plainVector(plainNumbers(b.F))) && len(b.Tips) <= 64 && b.Time <= 1<<40
	for i, d := range b.Tips {
		ok = ok && plainIn(d, b.F) && (i == 0 || plainLess(b.Tips[i-1], d))
	}
	if len(b.F) == 0 {
		return ok && len(b.Tips) == 0 && b.Time == 0
	}
	return ok && len(b.Tips) > 0 && b.Time > 0
}

// get tells the commit of a dot, and whether it is there.
func (p *plain) get(d api.Dot) (api.Commit, bool) {
	for _, c := range p.l {
		if c.Dot == d {
			return c, true
		}
	}
	return api.Commit{}, false
}

func (p *plain) has(d api.Dot) bool {
	_, is := p.get(d)
	return is || plainIn(d, p.b.F)
}

// insert is the document's words for what Insert tells.
func (p *plain) insert(c api.Commit) api.Errno {
	if !commit.May(c) {
		return api.ErrForm
	}
	if p.has(c.Dot) {
		return api.ErrTwice
	}
	before := api.Dot{Actor: c.Dot.Actor, Seq: c.Dot.Seq - 1}
	vv := plainNumbers(c.VV)
	know := plainNumbers(c.Parents, api.Vector{c.Dot})
	for a, n := range plainNumbers(p.b.F) {
		know[a] = max(know[a], min(n, vv[a]))
	}
	for _, d := range c.Parents {
		if !p.has(d) {
			return api.ErrGap
		}
		x, _ := p.get(d)
		for a, n := range plainNumbers(x.VV) {
			know[a] = max(know[a], n)
		}
	}
	if c.Dot.Seq > 1 && !p.has(before) {
		return api.ErrGap
	}
	for a, n := range vv {
		if n > know[a] {
			return api.ErrGap
		}
	}
	for a, n := range know {
		if n > vv[a] {
			return api.ErrForm
		}
	}
	told := c.Dot.Seq == 1 || plainIn(before, p.b.F)
	for _, d := range c.Parents {
		x, is := p.get(d)
		if !is {
			continue
		}
		told = told || plainIn(before, x.VV)
		if x.Time >= c.Time {
			return api.ErrForm
		}
		for _, other := range c.Parents {
			if other != d && plainIn(other, x.VV) {
				return api.ErrForm
			}
		}
	}
	if !told {
		return api.ErrForm
	}
	if len(p.l) == 200 {
		return api.ErrFull
	}
	p.l = append(p.l, c)
	return api.OK
}

// heads is the document's words for heads.
func (p *plain) heads() []api.Dot {
	all := slices.Clone(p.b.Tips)
	for _, c := range p.l {
		all = append(all, c.Dot)
	}
	var l []api.Dot
	for _, d := range all {
		is := true
		for _, c := range p.l {
			is = is && (c.Dot == d || !plainIn(d, c.VV))
		}
		if is {
			l = with(l, d)
		}
	}
	return l
}

// with tells rising dots with one more in its place among them.
func with(l []api.Dot, d api.Dot) []api.Dot {
	i := 0
	for i < len(l) && plainLess(l[i], d) {
		i++
	}
	return slices.Insert(slices.Clone(l), i, d)
}

// check checks that a graph tells what the document's words tell, and what follows.
func (p *plain) check(t *testing.T, g *Graph) {
	t.Helper()
	vectors := []api.Vector{p.b.F}
	time := p.b.Time
	for _, c := range p.l {
		vectors = append(vectors, c.VV)
		time = max(time, c.Time)
		if got, ok := g.Get(c.Dot); !ok || !commit.Same(got, c) {
			t.Fatalf("%v: %v, %v", c, got, ok)
		}
	}
	if !slices.Equal(g.VV(), plainVector(plainNumbers(vectors...))) || g.Time() != time || !slices.Equal(g.Heads(), p.heads()) || !sameBase(g.Base(), p.b) {
		t.Fatalf("%v: %v, %d, %v, %v", p, g.VV(), g.Time(), g.Heads(), g.Base())
	}
	l := g.Commits()
	if len(l) != len(p.l) {
		t.Fatalf("%v, not %v", l, p.l)
	}
	seen := map[api.Dot]int{}
	for i, c := range l {
		if i > 0 && (l[i-1].Time > c.Time || l[i-1].Time == c.Time && !plainLess(l[i-1].Dot, c.Dot)) {
			t.Fatalf("%v ahead of %v", l[i-1], c)
		}
		// What follows: each commit is behind its parents.
		for _, d := range c.Parents {
			if _, is := p.get(d); is && seen[d] == 0 {
				t.Fatalf("%v ahead of its parent", c)
			}
		}
		if x, is := p.get(c.Dot); !is || !commit.Same(x, c) {
			t.Fatalf("%v, not %v", c, x)
		}
		seen[c.Dot]++
	}
	vv := g.VV()
	for _, a := range actors(1) {
		n := plainNumbers(vv)[a.Actor]
		for _, seq := range []uint64{0, 1, 2, 3, 4, 5, 6, n - 2, n - 1, n, n + 1, n + 2} {
			d := api.Dot{Actor: a.Actor, Seq: seq}
			// What follows: VV tells of a dot just if Has does.
			if is := p.has(d); g.Has(d) != is || is != plainIn(d, vv) {
				t.Fatalf("Has(%v) = %v, %v", d, g.Has(d), vv)
			}
			if _, is := p.get(d); !is {
				if c, ok := g.Get(d); ok || !noCommit(c) {
					t.Fatalf("Get(%v) = %v", d, c)
				}
			}
		}
	}
}

// maker makes baselines and commits of bytes.
type maker struct{ b []byte }

// below takes a byte and tells a number below n.
func (m *maker) below(n int) int {
	if len(m.b) == 0 {
		return 0
	}
	x := m.b[0]
	m.b = m.b[1:]
	return int(x) % n
}

// rare tells whether one of some fifty bytes is there.
func (m *maker) rare() bool { return m.below(50) == 49 }

// actor tells one of few actors.
func (m *maker) actor() api.Actor {
	return api.Actor{Rep: uint8(m.below(3)), Inc: uint32(m.below(4)/3 + 1)}
}

// dot tells a dot of few, mostly one that may be.
func (m *maker) dot() api.Dot {
	if m.rare() {
		return at(uint8(m.below(20)), uint32(m.below(6)), uint64(m.below(3))<<20)
	}
	return api.Dot{Actor: m.actor(), Seq: uint64(m.below(5) + 1)}
}

// base tells a baseline, mostly one that may be.
func (m *maker) base() api.Base {
	if m.below(3) == 0 {
		return api.Base{Num: uint64(m.below(3))}
	}
	b := api.Base{Num: uint64(m.below(3)), Time: uint64(m.below(5) + 1)}
	n := map[api.Actor]uint64{}
	for range m.below(4) + 1 {
		n[m.actor()] = uint64(m.below(4) + 1)
	}
	b.F = plainVector(n)
	for range m.below(4) + 1 {
		d := b.F[m.below(len(b.F))]
		d.Seq -= uint64(m.below(int(d.Seq)))
		if b.Tips = with(b.Tips, d); !m.rare() {
			b.Tips = slices.Compact(b.Tips)
		}
	}
	if m.rare() {
		b.F = append(b.F, m.dot())
	}
	if m.rare() {
		b.Tips = append(b.Tips, m.dot())
	}
	if m.rare() {
		b.Time = 0
	}
	return b
}

// parents tells dots that are there or within the baseline, mostly such that none is behind another one.
func (m *maker) parents(p *plain) []api.Dot {
	var l []api.Dot
	some := slices.Clone(p.b.Tips)
	for _, c := range p.l {
		some = append(some, c.Dot)
	}
	if m.below(3) > 0 {
		some = p.heads()
	}
	if len(some) == 0 {
		return nil
	}
	for range m.below(4) {
		d := some[m.below(len(some))]
		apart := !slices.Contains(l, d)
		for _, o := range l {
			x, _ := p.get(o)
			y, _ := p.get(d)
			apart = apart && !plainIn(d, x.VV) && !plainIn(o, y.VV)
		}
		if apart || m.rare() {
			l = with(l, d)
		}
	}
	if m.rare() {
		l = with(l, m.dot())
	}
	return l
}

// commit tells a commit, mostly one that can stand on what is there.
func (m *maker) commit(p *plain) api.Commit {
	c := api.Commit{Parents: m.parents(p), Op: add(int64(m.below(9)))}
	vectors := []api.Vector{c.Parents}
	for _, d := range c.Parents {
		x, _ := p.get(d)
		vectors = append(vectors, x.VV)
		c.Time = max(c.Time, x.Time)
	}
	if m.below(2) == 0 && len(p.b.F) > 0 {
		d := p.b.F[m.below(len(p.b.F))]
		d.Seq -= uint64(m.below(int(d.Seq)))
		vectors = append(vectors, api.Vector{d})
	}
	n := plainNumbers(vectors...)
	a := m.actor()
	c.Dot = api.Dot{Actor: a, Seq: max(n[a], plainNumbers(p.b.F)[a]) + 1}
	c.Time += uint64(m.below(4) + 1)
	switch m.below(40) {
	case 39:
		c.Dot = m.dot()
	case 38:
		c.Time = uint64(m.below(6))
	case 37:
		d := m.dot()
		n[d.Actor] = d.Seq
	case 36:
		delete(n, m.actor())
	case 35:
		c.Parents = append(c.Parents, m.dot())
	case 34:
		if len(c.Parents) > 0 {
			c.Parents = c.Parents[1:]
		}
	case 33:
		n = plainNumbers(plainVector(n), m.later(p))
	}
	n[c.Dot.Actor] = c.Dot.Seq
	if c.VV = plainVector(n); m.rare() {
		c.VV = append(c.VV, m.dot())
	}
	return c
}

// later tells the VV of a commit that is there.
func (m *maker) later(p *plain) api.Vector {
	if len(p.l) == 0 {
		return nil
	}
	return p.l[m.below(len(p.l))].VV
}

// P12.1, P12.2, P1: of baselines and commits that bytes make all calls are as the document's words are.
func FuzzGraph(f *testing.F) {
	r := rand.New(rand.NewSource(4))
	for range 2500 {
		b := make([]byte, r.Intn(400))
		r.Read(b)
		f.Add(b)
	}
	f.Fuzz(func(t *testing.T, b []byte) {
		m := &maker{b}
		p := &plain{b: m.base()}
		h := handedBase(p.b)
		g, e := New(h)
		if may := plainMayBase(p.b); MayBase(p.b) != may || may != (e == api.OK) || may != (g != nil) || !may && e != api.ErrForm || !wholeBase(h, p.b) {
			t.Fatalf("New(%v): %d", p.b, e)
		}
		if e != api.OK {
			return
		}
		for len(m.b) > 0 {
			c := m.commit(p)
			h := handed(c)
			was := len(p.l)
			got, want := g.Insert(h), p.insert(c)
			if got != want || !whole(h, c) {
				t.Fatalf("Insert(%v) = %d, not %d, into %v", c, got, want, p)
			}
			if spoil(h); len(p.l) > was && m.below(4) == 0 {
				g = g.Copy()
			}
		}
		p.check(t, g)
	})
}
