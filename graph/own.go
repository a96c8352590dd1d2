package graph

import (
	"slices"

	"varve/api"
	"varve/commit"
)

// ownBase tells a baseline in memory of its own.
func ownBase(b api.Base) api.Base {
	b.F, b.Tips, b.Tree = slices.Clone(b.F), slices.Clone(b.Tips), ownTree(b.Tree)
	return b
}

// ownTree tells a tree that may be, in memory of its own.
func ownTree(t api.Tree) api.Tree {
	var own func(t api.Tree) api.Tree
	own = func(t api.Tree) api.Tree {
		t = slices.Clone(t)
		for i, n := range t {
			t[i].Leaves, t[i].Below = ownLeaves(n.Leaves), own(n.Below)
		}
		return t
	}
	return own(t)
}

// ownLeaves tells leaves in memory of their own.
func ownLeaves(l []api.Leaf) []api.Leaf {
	l = slices.Clone(l)
	for i, x := range l {
		l[i].Items, l[i].Tombs = slices.Clone(x.Items), slices.Clone(x.Tombs)
	}
	return l
}

// ownCommit tells a commit in memory of its own.
func ownCommit(c api.Commit) api.Commit {
	// An event is in memory of its own already, and so is its operation.
	c.Parents, c.VV, c.Op = slices.Clone(c.Parents), slices.Clone(c.VV), commit.Event(c).Op
	return c
}

// ownCommits tells all commits, each in memory of its own, in any order.
func ownCommits(l commits) []api.Commit {
	var all []api.Commit
	for _, c := range l {
		all = append(all, ownCommit(c))
	}
	return all
}
