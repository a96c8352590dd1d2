package merge

import (
	"slices"
	"strconv"

	"varve/api"
	"varve/base"
	"varve/commit"
	"varve/graph"
	"varve/tree"
)

// merger works out states of a graph's commits, each once: virtual bases come again and again.
type merger struct {
	g *graph.Graph
	// The state of none is the baseline's tree; one commit's stands by its dot, the merged one of more by the text of their dots.
	none api.Tree
	one  map[api.Dot]api.Tree
	more map[string]api.Tree
}

func mergerOf(g *graph.Graph) *merger {
	return &merger{g, g.Base().Tree, map[api.Dot]api.Tree{}, map[string]api.Tree{}}
}

// merged tells the merged state of commits that are there; their dots rise.
func (m *merger) merged(dots []api.Dot) api.Tree {
	switch len(dots) {
	case 0:
		return m.none
	case 1:
		return kept(m.one, dots[0], dots[0], m.applied)
	}
	return kept(m.more, text(dots), dots, m.fused)
}

// kept tells the state that is kept by a key; if there is none, a step works it out ahead of that.
func kept[K comparable, D any](states map[K]api.Tree, key K, of D, step func(D) api.Tree) api.Tree {
	t, is := states[key]
	if !is {
		t = step(of)
		states[key] = t
	}
	return t
}

// A step meets no refusal: a graph has only commits whose events may be, above a tree that may be.

// applied works out the state of one commit: what its parents tell, and its event.
func (m *merger) applied(d api.Dot) api.Tree {
	c, _ := m.g.Get(d)
	t, _ := tree.Apply(m.merged(m.there(c.Parents)), commit.Event(c))
	return t
}

// fused works out the merged state of two commits or more: the last one's is merged with that of those ahead of it.
func (m *merger) fused(dots []api.Dot) api.Tree {
	last := len(dots) - 1
	virtual := m.merged(base.Of(m.g, dots[:last], dots[last]))
	t, _ := tree.Merge(virtual, m.merged(dots[:last]), m.merged(dots[last:]))
	return t
}

// lacks tells whether the commit of a dot is not there.
func (m *merger) lacks(d api.Dot) bool {
	_, is := m.g.Get(d)
	return !is
}

// there tells those of some dots whose commits are there; the list is the caller's own.
func (m *merger) there(dots []api.Dot) []api.Dot { return slices.DeleteFunc(dots, m.lacks) }

// text tells dots as one text, no two lists as the same.
func text(dots []api.Dot) string {
	var b []byte
	for _, d := range dots {
		b = append(strconv.AppendUint(b, uint64(d.Rep), 10), '.')
		b = append(strconv.AppendUint(b, uint64(d.Inc), 10), '.')
		b = append(strconv.AppendUint(b, d.Seq, 10), ' ')
	}
	return string(b)
}
