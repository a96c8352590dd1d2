package graph

import (
	"slices"

	"varve/api"
	"varve/commit"
	"varve/dot"
)

// Insert puts a commit into the graph; it tells why not, if it can't.
func (g *Graph) Insert(c api.Commit) api.Errno {
	if !g.isMade() {
		return api.ErrNil
	}
	if e := g.refuses(c); e != api.OK {
		return e
	}
	g.there[c.Dot] = ownCommit(c)
	return api.OK
}

// refuses tells why a commit can't be put in; OK, if it can.
func (g *Graph) refuses(c api.Commit) api.Errno {
	switch {
	case !commit.May(c):
		return api.ErrForm
	case g.Has(c.Dot):
		return api.ErrTwice
	case g.isGap(c):
		return api.ErrGap
	case !g.isFit(c):
		return api.ErrForm
	case len(g.there) >= api.MaxCommits:
		return api.ErrFull
	}
	return api.OK
}

// isGap tells whether the graph lacks something that a commit stands on.
func (g *Graph) isGap(c api.Commit) bool {
	if c.Dot.Seq > 1 && !g.Has(ahead(c.Dot)) {
		return true
	}
	lacks := func(p api.Dot) bool { return !g.Has(p) }
	return slices.ContainsFunc(c.Parents, lacks) || !dot.Within(c.VV, g.mustKnow(c))
}

// isFit tells whether a commit that lacks nothing can stand where it says: it knows all that it must, and its actor's dot ahead by its parents or the baseline.
func (g *Graph) isFit(c api.Commit) bool {
	told := append(g.histories(c), g.base.F...)
	// The dot ahead of an actor's first one stands for nothing, so that is within all.
	return dot.Within(g.mustKnow(c), c.VV) && dot.Within(api.Vector{ahead(c.Dot)}, told) && g.mayStand(c)
}

// mayStand tells whether a commit's parents that are there are earlier than it, and none has another parent behind it.
func (g *Graph) mayStand(c api.Commit) bool {
	for _, p := range g.parents(c) {
		isBehind := func(d api.Dot) bool { return d != p.Dot && dot.Has(p.VV, d) }
		if p.Time >= c.Time || slices.ContainsFunc(c.Parents, isBehind) {
			return false
		}
	}
	return true
}

// mustKnow tells a vector that stands for what a commit must know.
func (g *Graph) mustKnow(c api.Commit) api.Vector {
	return slices.Concat(g.histories(c), c.Parents, dot.Meet(c.VV, g.base.F), api.Vector{c.Dot})
}

// histories tells the VVs of a commit's parents that are there, one behind the other: as a vector that stands for their join.
func (g *Graph) histories(c api.Commit) api.Vector {
	var all api.Vector
	for _, p := range g.parents(c) {
		all = append(all, p.VV...)
	}
	return all
}

// parents tells a commit's parents that are there.
func (g *Graph) parents(c api.Commit) []api.Commit {
	var l []api.Commit
	for _, d := range c.Parents {
		if p, is := g.there[d]; is {
			l = append(l, p)
		}
	}
	return l
}

// ahead tells the dot of the same actor that is right ahead of one.
func ahead(d api.Dot) api.Dot {
	d.Seq--
	return d
}
