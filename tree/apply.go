package tree

import (
	"cmp"
	"slices"

	"varve/api"
	"varve/fuse"
	"varve/leaf"
	"varve/op"
)

// Apply tells the tree behind an event.
func Apply(t api.Tree, e api.Event) (api.Tree, api.Errno) {
	if !May(t) || !op.MayEvent(e) {
		return nil, api.ErrArg
	}
	return applied(remade(t, own), e.Op.Path, e), api.OK
}

// Merge tells the merge of two trees over a base.
func Merge(l, a, b api.Tree) (api.Tree, api.Errno) {
	if !May(l) || !May(a) || !May(b) {
		return nil, api.ErrArg
	}
	return merged(l, a, b), api.OK
}

// Purge tells a tree whose leaves are without their tombs.
func Purge(t api.Tree) (api.Tree, api.Errno) {
	if !May(t) {
		return nil, api.ErrArg
	}
	return remade(t, purged), api.OK
}

// Below here all trees and events may be: so layers 5 and 6 refuse none of their leaves, and what they tell is OK.

// remade tells a tree in memory of its own, of each leaf what the function tells of it.
func remade(t api.Tree, of func(api.Leaf) api.Leaf) api.Tree {
	var all api.Tree
	for _, n := range t {
		x := api.Node{Name: n.Name, Below: remade(n.Below, of)}
		for _, l := range n.Leaves {
			x.Leaves = append(x.Leaves, of(l))
		}
		all = append(all, x)
	}
	return all
}

func purged(l api.Leaf) api.Leaf {
	x, _ := fuse.Purge(l)
	return x
}

// applied changes a tree to the one behind an event at a path of it; the tree is the caller's own.
func applied(t api.Tree, path []string, e api.Event) api.Tree {
	i, is := place(t, path[0])
	if !is {
		t = slices.Insert(t, i, api.Node{Name: path[0]})
	}
	if n := &t[i]; len(path) > 1 {
		n.Below = applied(n.Below, path[1:], e)
	} else {
		n.Leaves = appliedTo(n.Leaves, e)
	}
	return t
}

// appliedTo changes a node's leaves to those behind an event.
func appliedTo(l []api.Leaf, e api.Event) []api.Leaf {
	kind := op.Type(e.Op.Kind)
	i, is := slices.BinarySearchFunc(l, kind, func(x api.Leaf, kind uint8) int { return cmp.Compare(x.Type, kind) })
	if !is {
		l = slices.Insert(l, i, leaf.New(kind))
	}
	l[i], _ = leaf.Apply(l[i], e)
	return l
}

// merged tells the merge, name by name of all three.
func merged(l, a, b api.Tree) api.Tree {
	var all api.Tree
	for _, name := range slices.Compact(names(l, a, b)) {
		x, y, z := node(l, name), node(a, name), node(b, name)
		all = append(all, api.Node{Name: name, Leaves: mergedLeaves(x, y, z), Below: merged(x.Below, y.Below, z.Below)})
	}
	return all
}

// mergedLeaves tells the merges of a node's leaves, of each type of which one of the three has one.
func mergedLeaves(l, a, b api.Node) []api.Leaf {
	var all []api.Leaf
	for kind := api.Counter; kind <= api.Log; kind++ {
		x, inL := leafAt(l, kind)
		y, inA := leafAt(a, kind)
		z, inB := leafAt(b, kind)
		if inL || inA || inB {
			m, _ := fuse.Merge(x, y, z)
			all = append(all, m)
		}
	}
	return all
}

// node tells the node of a name; one that has nothing, if there is none.
func node(t api.Tree, name string) api.Node {
	i, is := place(t, name)
	if !is {
		return api.Node{}
	}
	return t[i]
}

// place tells where a name stands among names that rise, or would stand, and whether it does.
func place(t api.Tree, name string) (int, bool) {
	return slices.BinarySearchFunc(t, name, func(n api.Node, name string) int { return cmp.Compare(n.Name, name) })
}
