package graph

import (
	"math"
	"slices"
	"testing"

	"varve/api"
	"varve/commit"
)

// some tells a graph with commits: 0.1.3 and 1.1.2 beside each other above the baseline, 0.1.4 on both, and 3.1.1 on nothing.
func some(t *testing.T) *Graph {
	t.Helper()
	b := api.Base{Num: 1, F: api.Vector{one(2), two(1), three(4)}, Tips: dotsIn(one(2), three(4)), Time: 4}
	return graphOf(t, b,
		did(one(3), 5, api.Vector{one(3), two(1)}, one(2)),
		did(two(2), 6, api.Vector{one(1), two(2), three(3)}, three(3)),
		did(one(4), 7, api.Vector{one(4), two(2), three(3)}, one(3), two(2)),
		did(at(3, 1, 1), 1, api.Vector{at(3, 1, 1)}))
}

// inserted checks what Insert tells of a commit, and that one that is refused changes nothing.
func inserted(t *testing.T, name string, c api.Commit, want api.Errno) {
	t.Helper()
	g := some(t)
	was := g.Copy()
	if e := g.Insert(c); e != want {
		t.Errorf("%s: %v: %d, want %d", name, c, e, want)
		return
	}
	if want != api.OK {
		if !same(g, was) {
			t.Errorf("%s: changed", name)
		}
		return
	}
	got, ok := g.Get(c.Dot)
	if !ok || !commit.Same(got, c) || !g.Has(c.Dot) || len(g.Commits()) != len(was.Commits())+1 {
		t.Errorf("%s: %v, %v", name, got, ok)
	}
}

// P12.1: what can stand on what is there.
func TestInsert(t *testing.T) {
	for name, c := range map[string]api.Commit{
		"on a commit":                                   did(one(5), 8, api.Vector{one(5), two(2), three(3)}, one(4)),
		"on all heads":                                  did(one(5), 8, api.Vector{one(5), two(2), three(4), at(3, 1, 1)}, one(4), three(4), at(3, 1, 1)),
		"on nothing":                                    did(at(4, 1, 1), 1, api.Vector{at(4, 1, 1)}),
		"on nothing, with all of the baseline":          did(at(4, 1, 1), 1, api.Vector{one(2), two(1), three(4), at(4, 1, 1)}),
		"on nothing, with some of the baseline":         did(at(4, 1, 1), 1, api.Vector{one(1), three(2), at(4, 1, 1)}),
		"on a tip":                                      did(at(4, 1, 1), 1, api.Vector{three(4), at(4, 1, 1)}, three(4)),
		"within the baseline, on none of its tips":      did(at(4, 1, 1), 1, api.Vector{two(1), three(2), at(4, 1, 1)}, two(1), three(1), three(2)),
		"on dots of the baseline of one actor":          did(at(4, 1, 1), 1, api.Vector{one(2), at(4, 1, 1)}, one(1), one(2)),
		"on a commit and a dot of the baseline":         did(at(4, 1, 1), 7, api.Vector{one(1), two(2), three(4), at(4, 1, 1)}, two(2), three(4)),
		"its actor's dot ahead is within the baseline":  did(three(5), 1, api.Vector{three(5)}),
		"the same, on another dot":                      did(three(5), 1, api.Vector{one(1), three(5)}, one(1)),
		"its actor's dot ahead is within a parent's VV": did(at(3, 1, 2), 2, api.Vector{at(3, 1, 2)}, at(3, 1, 1)),
		"a commit of another life":                      did(at(0, 2, 1), 1, api.Vector{at(0, 2, 1)}),
		"another life on the first one":                 did(at(0, 2, 1), 8, api.Vector{one(4), at(0, 2, 1), two(2), three(3)}, one(4)),
		"beside a commit":                               did(at(4, 1, 1), 6, api.Vector{one(3), two(1), at(4, 1, 1)}, one(3)),
		"of the baseline more than its parent":          did(at(4, 1, 1), 6, api.Vector{one(3), two(1), three(4), at(4, 1, 1)}, one(3)),
		"at the greatest time":                          did(at(4, 1, 1), 1<<40, api.Vector{one(3), two(1), at(4, 1, 1)}, one(3)),
		"ahead of the baseline's time":                  did(three(5), 1, api.Vector{one(2), three(5)}, one(2), three(4)),
	} {
		inserted(t, name, c, api.OK)
	}
}

// P12.1: ErrForm of what layer 11 says may not be, ahead of all else.
func TestInsertWrong(t *testing.T) {
	for name, c := range map[string]api.Commit{
		"nothing":                            {},
		"no VV":                              did(one(5), 8, nil, one(4)),
		"VV without its own dot":             did(one(5), 8, api.Vector{one(4), two(2), three(3)}, one(4)),
		"VV not rising":                      did(one(5), 8, api.Vector{two(2), one(5), three(3)}, one(4)),
		"no time":                            did(one(5), 0, api.Vector{one(5), two(2), three(3)}, one(4)),
		"too late":                           did(one(5), 1<<40+1, api.Vector{one(5), two(2), three(3)}, one(4)),
		"its own dot as a parent":            did(one(5), 8, api.Vector{one(5), two(2), three(3)}, one(5)),
		"a parent that is not within its VV": did(one(5), 8, api.Vector{one(5), two(2), three(3)}, one(4), three(4)),
		"parents that fall":                  did(one(5), 8, api.Vector{one(5), two(2), three(3), at(3, 1, 1)}, at(3, 1, 1), one(4)),
		"a parent twice":                     did(one(5), 8, api.Vector{one(5), two(2), three(3)}, one(4), one(4)),
		"there already, with another fault":  did(one(4), 0, api.Vector{one(4), two(2), three(3)}, one(3), two(2)),
		"within F, with another fault":       did(one(1), 1, api.Vector{one(2)}),
		"a gap, with another fault":          did(one(9), 8, api.Vector{one(8)}, one(7)),
		"a wrong dot":                        did(one(0), 8, api.Vector{one(0)}),
		"a dot that is too great":            did(one(1<<20+1), 8, api.Vector{one(1<<20 + 1)}, one(1<<20)),
		"an actor that may not be":           did(at(16, 1, 1), 8, api.Vector{at(16, 1, 1)}),
	} {
		inserted(t, name, c, api.ErrForm)
	}
	c := did(one(5), 8, api.Vector{one(5), two(2), three(3)}, one(4))
	c.Op.Path = nil
	inserted(t, "no path", c, api.ErrForm)
	c.Op = api.Op{Kind: api.OpDrop, Path: []string{"a"}, Dots: dotsIn(three(4))}
	inserted(t, "it drops what it does not know", c, api.ErrForm)
}

// P12.1: ErrTwice of a dot that is there, or within F, ahead of all but what may not be.
func TestInsertTwice(t *testing.T) {
	g := some(t)
	for _, c := range g.Commits() {
		inserted(t, "just the same", c, api.ErrTwice)
		inserted(t, "another one", did(c.Dot, 99, api.Vector{c.Dot}), api.ErrTwice)
		other := c
		other.Time, other.Op = c.Time+1, add(77)
		inserted(t, "another time and operation", other, api.ErrTwice)
	}
	for _, d := range dotsIn(one(1), one(2), two(1), three(1), three(4)) {
		inserted(t, "within F", did(d, 1, api.Vector{d}), api.ErrTwice)
	}
	// All else would be wrong, too.
	inserted(t, "a gap there", did(one(4), 1, api.Vector{one(4), at(9, 1, 9)}, at(9, 1, 9)), api.ErrTwice)
	inserted(t, "a gap within F", did(one(2), 1, api.Vector{one(2), at(9, 1, 9)}, at(9, 1, 9)), api.ErrTwice)
	inserted(t, "unfit there", did(one(4), 1, api.Vector{one(4)}, one(3)), api.ErrTwice)
}

// P12.1: ErrGap of what stands on something that is neither there nor within F, ahead of what is unfit.
func TestInsertGap(t *testing.T) {
	for name, c := range map[string]api.Commit{
		"a parent that is not there":                     did(at(4, 1, 1), 9, api.Vector{at(4, 1, 1), at(5, 1, 1)}, at(5, 1, 1)),
		"a parent behind F":                              did(at(4, 1, 1), 9, api.Vector{three(5), at(4, 1, 1)}, three(5)),
		"a parent behind what is there":                  did(at(4, 1, 1), 9, api.Vector{one(5), two(2), three(3), at(4, 1, 1)}, one(5)),
		"one of its parents":                             did(at(4, 1, 1), 9, api.Vector{one(4), two(2), three(3), at(4, 1, 1), at(5, 1, 1)}, one(4), at(5, 1, 1)),
		"the first of its parents":                       did(at(4, 1, 1), 9, api.Vector{at(0, 2, 1), three(4), at(4, 1, 1)}, at(0, 2, 1), three(4)),
		"its actor's dot ahead":                          did(one(6), 9, api.Vector{one(6), two(2), three(3)}, one(4)),
		"its actor's dot ahead, that of a new actor":     did(at(4, 1, 2), 9, api.Vector{at(4, 1, 2)}),
		"its actor's dot ahead, behind F":                did(three(6), 9, api.Vector{three(6)}, three(4)),
		"its actor's dot ahead, of another life":         did(at(0, 2, 5), 9, api.Vector{one(4), at(0, 2, 5), two(2), three(3)}, one(4)),
		"more in its VV than its parent's":               did(one(5), 9, api.Vector{one(5), two(2), three(3), at(3, 1, 1)}, one(4)),
		"more of an actor than its parent's":             did(at(4, 1, 1), 9, api.Vector{one(3), two(2), at(4, 1, 1)}, one(3)),
		"more in its VV than the baseline":               did(at(4, 1, 1), 9, api.Vector{three(5), at(4, 1, 1)}),
		"what is there, but behind none of its parents":  did(at(4, 1, 1), 9, api.Vector{one(3), at(4, 1, 1)}),
		"what is there, behind a parent within F":        did(at(4, 1, 1), 9, api.Vector{one(3), two(1), at(4, 1, 1)}, one(2)),
		"what is nowhere":                                did(at(4, 1, 1), 9, api.Vector{at(4, 1, 1), at(15, 4, 1)}),
		"what is nowhere, by a lot":                      did(at(4, 1, 1), 9, actorsWith(at(4, 1, 1))),
		"also unfit: its actor's dot ahead is not told":  did(one(5), 9, api.Vector{one(5), at(9, 1, 1)}, one(2)),
		"also unfit: it does not know all of its parent": did(one(5), 9, api.Vector{one(5), two(2), at(9, 1, 1)}, one(4)),
		"also unfit: a parent behind another one":        did(one(5), 9, api.Vector{one(5), two(2), three(3), at(9, 1, 1)}, one(3), one(4)),
		"also unfit: too early":                          did(one(5), 7, api.Vector{one(5), two(2), three(3), at(9, 1, 1)}, one(4), at(9, 1, 1)),
	} {
		inserted(t, name, c, api.ErrGap)
	}
}

// actorsWith tells a vector of dots of all actors, with that one.
func actorsWith(d api.Dot) api.Vector {
	l := actors(7)
	for i := range l {
		if l[i].Actor == d.Actor {
			l[i] = d
		}
	}
	return l
}

// P12.1: ErrForm of what can't stand where it says.
func TestInsertUnfit(t *testing.T) {
	for name, c := range map[string]api.Commit{
		"less of an actor than its parent's VV":      did(one(5), 8, api.Vector{one(5), two(1), three(3)}, one(4)),
		"nothing of an actor of its parent's VV":     did(one(5), 8, api.Vector{one(5), two(2)}, one(4)),
		"less of the baseline than its parent's VV":  did(one(5), 8, api.Vector{one(5), two(2), three(2)}, one(4)),
		"less than the second parent's VV":           did(at(4, 1, 1), 8, api.Vector{one(3), two(2), three(2), at(4, 1, 1)}, one(3), two(2)),
		"less than the first parent's VV":            did(at(4, 1, 1), 8, api.Vector{one(3), at(3, 1, 1), at(4, 1, 1)}, one(3), at(3, 1, 1)),
		"its actor's dot ahead is there, not told":   did(one(5), 8, api.Vector{one(5), two(2), three(3)}, two(2)),
		"the same, of a parent within F":             did(one(5), 8, api.Vector{one(5)}, one(2)),
		"the same, without parents":                  did(at(3, 1, 2), 8, api.Vector{at(3, 1, 2)}),
		"the same, of a parent ahead of that":        did(one(5), 8, api.Vector{one(5), two(1)}, one(3)),
		"a parent is behind another one":             did(one(5), 8, api.Vector{one(5), two(2), three(3)}, one(3), one(4)),
		"a parent is behind another one, of another": did(one(5), 8, api.Vector{one(5), two(2), three(3)}, one(4), two(2)),
		"a parent within F is behind another one":    did(one(5), 8, api.Vector{one(5), two(2), three(3)}, one(2), one(4)),
		"a tip is behind another one":                did(at(4, 1, 1), 8, api.Vector{one(3), two(1), at(4, 1, 1)}, one(2), one(3)),
		"one of three parents is behind another one": did(at(4, 1, 1), 8, api.Vector{one(3), two(1), three(4), at(3, 1, 1), at(4, 1, 1)}, one(3), two(1), three(4), at(3, 1, 1)),
		"as late as its parent":                      did(one(5), 7, api.Vector{one(5), two(2), three(3)}, one(4)),
		"earlier than its parent":                    did(one(5), 1, api.Vector{one(5), two(2), three(3)}, one(4)),
		"as late as the second parent":               did(at(4, 1, 1), 6, api.Vector{one(3), two(2), three(3), at(4, 1, 1)}, one(3), two(2)),
		"as late as the first parent":                did(at(4, 1, 1), 5, api.Vector{one(3), two(1), at(3, 1, 1), at(4, 1, 1)}, one(3), at(3, 1, 1)),
	} {
		inserted(t, name, c, api.ErrForm)
	}
}

// P12.1: what a commit must know of the baseline is what of its VV is within F, not all of F.
func TestInsertKnowsLess(t *testing.T) {
	g := graphOf(t, api.Base{F: api.Vector{one(3), two(3)}, Tips: dotsIn(one(3), two(3)), Time: 5})
	for seq := range uint64(4) {
		d := at(3, 1, seq+1)
		c := did(d, seq+1, api.Vector{one(seq + 1), d})
		if seq > 0 {
			c.Parents = dotsIn(at(3, 1, seq))
		}
		want := api.OK
		if seq == 3 {
			want = api.ErrGap
		}
		if e := g.Insert(c); e != want {
			t.Error(seq, e)
		}
	}
}

// P12.1: a dot ahead is told by F or by a parent's VV; that it is there is not enough.
func TestInsertOnOwn(t *testing.T) {
	g := graphOf(t, api.Base{F: api.Vector{one(1)}, Tips: dotsIn(one(1)), Time: 5})
	for seq := uint64(2); seq <= 5; seq++ {
		// Without parents just the first one above F can stand.
		want := api.ErrForm
		if seq == 2 {
			want = api.OK
		}
		if e := g.Insert(did(one(seq), seq, api.Vector{one(seq)})); e != want {
			t.Error(seq, e)
		}
		if seq > 2 {
			if e := g.Insert(did(one(seq), seq, api.Vector{one(seq)}, one(seq-1))); e != api.OK {
				t.Error(seq, e)
			}
		}
	}
}

// P12.1: ErrFull, if MaxCommits are there, behind all other errors.
func TestInsertFull(t *testing.T) {
	g := graphOf(t, goodBase())
	last := one(2)
	for n := range uint64(api.MaxCommits) {
		d := one(n + 3)
		if e := g.Insert(did(d, n+5, api.Vector{d}, last)); e != api.OK {
			t.Fatal(n, e)
		}
		last = d
	}
	was := g.Copy()
	for name, x := range map[string]struct {
		c    api.Commit
		want api.Errno
	}{
		"one more":          {did(one(203), 300, api.Vector{one(203)}, last), api.ErrFull},
		"one beside them":   {did(three(1), 1, api.Vector{three(1)}), api.ErrFull},
		"wrong":             {did(three(1), 0, api.Vector{three(1)}), api.ErrForm},
		"twice":             {did(one(202), 300, api.Vector{one(202)}), api.ErrTwice},
		"twice, within F":   {did(one(1), 300, api.Vector{one(1)}), api.ErrTwice},
		"a gap":             {did(one(204), 300, api.Vector{one(204)}, last), api.ErrGap},
		"a gap beside them": {did(three(1), 1, api.Vector{three(1), at(3, 1, 1)}), api.ErrGap},
		"unfit":             {did(one(203), 1, api.Vector{one(203)}, last), api.ErrForm},
	} {
		if e := g.Insert(x.c); e != x.want || !same(g, was) {
			t.Error(name, e)
		}
	}
	if len(g.Commits()) != 200 || !slices.Equal(g.VV(), api.Vector{one(202), two(1), at(2, 2, 4)}) || !slices.Equal(g.Heads(), dotsIn(one(202), at(2, 2, 4))) || g.Time() != 204 {
		t.Error(len(g.Commits()), g.VV(), g.Heads(), g.Time())
	}
	if e := g.Copy().Insert(did(one(203), 300, api.Vector{one(203)}, last)); e != api.ErrFull {
		t.Error(e)
	}
}

// P12.1: 64 parents, there and within F.
func TestInsertParents(t *testing.T) {
	f := actors(1)[:32]
	g := graphOf(t, api.Base{F: f, Tips: f, Time: 1})
	for _, d := range actors(1)[32:] {
		if e := g.Insert(did(d, 2, api.Vector{d})); e != api.OK {
			t.Fatal(e)
		}
	}
	if !slices.Equal(g.Heads(), actors(1)) || !slices.Equal(g.VV(), actors(1)) {
		t.Error(g.Heads(), g.VV())
	}
	c := did(one(2), 3, actors(1), actors(1)...)
	c.VV[0] = one(2)
	for i, d := range c.Parents {
		less := did(one(2), 3, slices.Clone(c.VV), slices.Delete(slices.Clone(c.Parents), i, i+1)...)
		want := api.OK
		if i >= 32 {
			want = api.ErrGap
		}
		if e := g.Copy().Insert(less); e != want {
			t.Error(d, e)
		}
	}
	if e := g.Insert(c); e != api.OK || !slices.Equal(g.Heads(), dotsIn(one(2))) {
		t.Error(e, g.Heads())
	}
}

// P1: great arguments are refused soon.
func TestInsertGreat(t *testing.T) {
	const n = 1 << 20
	var l []api.Dot
	for i := range uint64(n) {
		l = append(l, one(i+1))
	}
	g := graphOf(t, api.Base{})
	for i, c := range []api.Commit{did(one(1), 1, l), did(one(n), 1, api.Vector{one(n)}, l...), did(one(n), 1, l, l...)} {
		if e := g.Insert(c); e != api.ErrForm {
			t.Error(i, e)
		}
	}
	if e := g.Insert(did(one(n), 1, api.Vector{one(n)}, l[n-65:n-1]...)); e != api.ErrGap {
		t.Error(e)
	}
	for i, b := range []api.Base{{F: l, Tips: l, Time: 1}, {F: api.Vector{one(n)}, Tips: l, Time: 1}, {F: l}, {Tips: l}} {
		if MayBase(b) {
			t.Error(i)
		}
	}
	var deep api.Tree
	for range 1 << 16 {
		deep = api.Tree{{Name: "a", Leaves: []api.Leaf{counter(1)}, Below: deep}}
	}
	if h, e := New(api.Base{Tree: deep}); e != api.ErrForm || h != nil {
		t.Error(e)
	}
	var wide api.Leaf
	wide.Type = api.Log
	for i := range uint64(n) {
		wide.Items = append(wide.Items, api.Item{Time: i + 1, Dot: one(n - i)})
	}
	if h, e := New(api.Base{Tree: api.Tree{has("a", wide)}, Num: math.MaxUint64}); e != api.OK || len(h.Copy().Base().Tree[0].Leaves[0].Items) != n {
		t.Error(e)
	}
}
