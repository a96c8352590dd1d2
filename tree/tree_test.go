package tree

import (
	"maps"
	"math"
	"slices"
	"strings"
	"testing"

	"varve/api"
	"varve/leaf"
)

// at tells the dot of these numbers.
func at(rep uint8, inc uint32, seq uint64) api.Dot {
	return api.Dot{Actor: api.Actor{Rep: rep, Inc: inc}, Seq: seq}
}

// one tells the n-th dot of replica 0's first life.
func one(n uint64) api.Dot { return at(0, 1, n) }

func dotsIn(l ...api.Dot) []api.Dot { return l }

func counter(n int64) api.Leaf { return api.Leaf{Type: api.Counter, N: n} }

func register(time uint64, d api.Dot, text string) api.Leaf {
	return api.Leaf{Type: api.Register, Time: time, Dot: d, Text: text}
}

func set(tombs []api.Dot, items ...api.Item) api.Leaf {
	return api.Leaf{Type: api.Set, Items: items, Tombs: tombs}
}

func log(items ...api.Item) api.Leaf { return api.Leaf{Type: api.Log, Items: items} }

// in tells a set's item.
func in(d api.Dot, text string) api.Item { return api.Item{Dot: d, Text: text} }

// said tells a log's item.
func said(time uint64, d api.Dot, text string) api.Item {
	return api.Item{Time: time, Dot: d, Text: text}
}

// has tells a node of a name and leaves, and nothing below.
func has(name string, l ...api.Leaf) api.Node { return api.Node{Name: name, Leaves: l} }

// over tells a node of a name that has just nodes below.
func over(name string, l ...api.Node) api.Node { return api.Node{Name: name, Below: l} }

func tree(l ...api.Node) api.Tree { return l }

// path tells the names of a path.
func path(l ...string) []string { return l }

// plainName is the document's words for a name.
func plainName(s string) bool {
	return s != "" && len(s) < 13 && strings.Trim(s, "abcdefghijklmnopqrstuvwxyzABCDEFGHIJKLMNOPQRSTUVWXYZ0123456789") == ""
}

// plainRising tells whether numbers or texts rise, none of them twice.
func plainRising[T int | string](l []T) bool {
	count := map[T]int{}
	for _, x := range l {
		count[x]++
	}
	return slices.IsSorted(l) && len(count) == len(l)
}

// plainMay is the document's words for a tree that may be, whose names are as deep as told.
func plainMay(t api.Tree, deep int) bool {
	var names []string
	for _, n := range t {
		names = append(names, n.Name)
		var types []int
		for _, l := range n.Leaves {
			types = append(types, int(l.Type))
			if !leaf.May(l) {
				return false
			}
		}
		if deep > 3 || !plainName(n.Name) || !plainRising(types) || len(n.Leaves) == 0 && len(n.Below) == 0 || !plainMay(n.Below, deep+1) {
			return false
		}
	}
	return plainRising(names)
}

// plainSame tells whether two trees are the same, list by list.
func plainSame(a, b api.Tree) bool {
	if len(a) != len(b) {
		return false
	}
	for i := range a {
		if a[i].Name != b[i].Name || len(a[i].Leaves) != len(b[i].Leaves) || !plainSame(a[i].Below, b[i].Below) {
			return false
		}
		for j := range a[i].Leaves {
			if !leaf.Same(a[i].Leaves[j], b[i].Leaves[j]) {
				return false
			}
		}
	}
	return true
}

// plainNode tells the node that a path's names lead to, and whether there is one.
func plainNode(t api.Tree, p []string) (api.Node, bool) {
	if len(p) == 0 {
		return api.Node{Below: t}, true
	}
	for _, n := range t {
		if n.Name == p[0] {
			if len(p) == 1 {
				return n, true
			}
			return plainNode(n.Below, p[1:])
		}
	}
	return api.Node{}, false
}

// plainLeaf is the document's words for Leaf.
func plainLeaf(t api.Tree, p []string, kind uint8) (api.Leaf, bool) {
	if kind < 1 || kind > 4 {
		return api.Leaf{}, false
	}
	n, _ := plainNode(t, p)
	for _, l := range n.Leaves {
		if l.Type == kind {
			return l, true
		}
	}
	return api.Leaf{Type: kind}, false
}

// plainNames is the document's words for Names.
func plainNames(t api.Tree, p []string) []string {
	n, _ := plainNode(t, p)
	count := map[string]int{}
	for _, x := range n.Below {
		count[x.Name]++
	}
	var l []string
	for _, x := range slices.Sorted(maps.Keys(count)) {
		l = append(l, slices.Repeat([]string{x}, count[x])...)
	}
	return l
}

// plainCount tells how many leaves, items and tombs there are.
func plainCount(t api.Tree) (leaves, items, tombs int) {
	for _, n := range t {
		for _, l := range n.Leaves {
			leaves, items, tombs = leaves+1, items+len(l.Items), tombs+len(l.Tombs)
		}
		a, b, c := plainCount(n.Below)
		leaves, items, tombs = leaves+a, items+b, tombs+c
	}
	return leaves, items, tombs
}

// right tells trees that may be.
func right() []api.Tree {
	u, v := in(one(1), "u"), in(at(1, 2, 3), "v")
	full := []api.Leaf{counter(-7), register(3, one(4), "w"), set(dotsIn(one(2), one(3)), u, v), log(said(1, one(9), "x"), said(2, one(8), "y"))}
	return []api.Tree{
		nil,
		{},
		tree(has("a", counter(0))),
		tree(has("a", counter(5))),
		tree(has("a", leaf.New(api.Register))),
		tree(has("a", leaf.New(api.Set))),
		tree(has("a", leaf.New(api.Log))),
		tree(has("b", counter(5))),
		tree(has("abcdefghijkl", counter(5))),
		tree(has("a", full...)),
		tree(has("a", counter(1), leaf.New(api.Log))),
		tree(has("a", register(3, one(4), "w"), set(nil, u))),
		tree(has("a", set(nil, u))),
		tree(has("a", set(dotsIn(one(1))))),
		tree(over("a", has("b", counter(5)))),
		tree(over("a", over("b", has("c", full...)))),
		tree(over("a", over("a", has("a", counter(5))))),
		tree(api.Node{Name: "a", Leaves: []api.Leaf{counter(5)}, Below: tree(has("b", counter(6)))}),
		tree(api.Node{Name: "a", Leaves: []api.Leaf{counter(5)}, Below: api.Tree{}}),
		tree(api.Node{Name: "a", Leaves: []api.Leaf{}, Below: tree(has("b", counter(6)))}),
		tree(over("a", over("b", api.Node{Name: "c", Leaves: []api.Leaf{counter(5)}, Below: api.Tree{}}))),
		tree(has("0", counter(1)), has("9", counter(1)), has("A", counter(1)), has("Z", counter(1)), has("a", counter(1)), has("a0", counter(1)), has("aa", counter(1)), has("b", counter(1)), has("z", counter(1))),
		tree(has("a", full...), over("b", has("a", full...), over("c", has("a", full...), has("b", set(dotsIn(one(5)))))), has("c", counter(1))),
	}
}

// wrong tells trees that may not be, each of one fault.
func wrong() []api.Tree {
	c := counter(5)
	l := []api.Tree{
		tree(has("a")),
		tree(api.Node{Name: "a", Leaves: []api.Leaf{}, Below: api.Tree{}}),
		tree(has("", c)), tree(has("abcdefghijklm", c)), tree(has("-", c)), tree(has("a b", c)), tree(has("*", c)), tree(has("\xC3\xA9", c)), tree(has("a\n", c)),
		tree(has("b", c), has("a", c)), tree(has("a", c), has("a", c)), tree(has("a", c), has("b", c), has("b", c)), tree(has("a", c), has("c", c), has("b", c)),
		tree(has("a", c), has("Z", c)), tree(has("aa", c), has("a", c)), tree(has("a", c), has("0", c)),
		tree(has("a", c, c)), tree(has("a", leaf.New(api.Register), c)), tree(has("a", c, leaf.New(api.Log), leaf.New(api.Set))), tree(has("a", c, leaf.New(api.Log), leaf.New(api.Log))),
		tree(has("a", api.Leaf{})), tree(has("a", api.Leaf{Type: 5})), tree(has("a", api.Leaf{Type: 255})), tree(has("a", c, api.Leaf{Type: 5})), tree(has("a", api.Leaf{}, c)),
		tree(has("a", api.Leaf{Type: api.Counter, Text: "u"})), tree(has("a", register(0, one(1), ""))), tree(has("a", register(1<<40+1, one(1), ""))), tree(has("a", register(1, one(0), ""))),
		tree(has("a", set(nil, in(one(2), ""), in(one(1), "")))), tree(has("a", set(dotsIn(one(1)), in(one(1), "")))), tree(has("a", c, set(dotsIn(one(1), one(1))))),
		tree(has("a", log(said(0, one(1), "")))), tree(has("a", log(said(1, one(1), ""), said(2, one(1), "")))), tree(has("a", c, log(said(1, one(1), strings.Repeat("y", 41))))),
	}
	// Each fault below names that may be, too, and behind a node that may be.
	for _, t := range slices.Clone(l) {
		l = append(l, tree(over("a", t...)), tree(over("a", over("b", t...))), tree(has("A", c), over("b", t...)), tree(api.Node{Name: "a", Leaves: []api.Leaf{c}, Below: t}))
	}
	return append(l,
		tree(over("a", over("b", over("c", has("d", c))))),
		tree(over("a", over("b", over("c", over("d", has("e", c)))))),
		tree(over("a", over("b", over("c", has("d"))))),
		tree(over("a", over("b", api.Node{Name: "c", Leaves: []api.Leaf{c}, Below: tree(has("d", c))}))),
	)
}

// odd tells trees that may not be, of names and types that stand twice or in no order.
func odd() []api.Tree {
	return []api.Tree{
		tree(over("b", has("x", counter(1))), over("a", has("y", counter(2))), over("b", has("z", counter(3), counter(4)))),
		tree(has("a", counter(1), counter(2), set(dotsIn(one(1))), counter(3)), has("a", counter(4), log(said(1, one(1), "u"))), has("", counter(5))),
		tree(over("a", over("b", over("c", over("d", has("e", counter(6), api.Leaf{N: 7}, api.Leaf{Type: 9, N: 8}))))), over("a", over("b"))),
		tree(has("a b", log(said(0, one(0), "v"), said(0, one(0), "v"))), has("z"), has("z"), has("z"), has("y", api.Leaf{Type: api.Counter, Text: "u", Tombs: dotsIn(one(2), one(1), one(2))})),
	}
}

// paths tells paths, and lists of texts that are none.
func paths() [][]string {
	return [][]string{
		nil, {}, {""}, {"a"}, {"b"}, {"c"}, {"z"}, {"y"}, {"a b"}, {"A"}, {"0"}, {"abcdefghijkl"}, {"abcdefghijklm"},
		{"a", "a"}, {"a", "b"}, {"a", ""}, {"", "a"}, {"b", "x"}, {"b", "z"}, {"b", "a"}, {"b", "c"}, {"a", "y"},
		{"a", "b", "c"}, {"a", "a", "a"}, {"b", "c", "a"}, {"b", "c", "b"}, {"b", "c", "c"}, {"a", "b", ""},
		{"a", "b", "c", "d"}, {"a", "b", "c", "d", "e"}, {"a", "b", "c", "d", "e", "f"}, {"b", "c", "b", "a"},
	}
}

// P7.1: which trees may be.
func TestMay(t *testing.T) {
	for i, x := range right() {
		if !May(x) || !plainMay(x, 1) {
			t.Errorf("%d may not be: %v", i, x)
		}
	}
	for i, x := range append(wrong(), odd()...) {
		if May(x) || plainMay(x, 1) {
			t.Errorf("%d may be: %v", i, x)
		}
	}
}

// P7.1: a node's name is one of layer 4, whatever bytes it has.
func TestMayNames(t *testing.T) {
	for c := range 256 {
		for _, s := range []string{string([]byte{byte(c)}), "a" + string([]byte{byte(c)}), strings.Repeat(string([]byte{byte(c)}), 12)} {
			if x := tree(has(s, counter(1))); May(x) != plainName(s) {
				t.Errorf("%q: %v", s, May(x))
			}
		}
	}
	for n := range 40 {
		if x := tree(over("a", has(strings.Repeat("q", n), counter(1)))); May(x) != (n >= 1 && n <= 12) {
			t.Errorf("a name of %d bytes: %v", n, May(x))
		}
	}
}

// P7.1: two trees are the same, if they have the same nodes; a list that is not there and an empty one are one.
func TestSame(t *testing.T) {
	all := slices.Concat(right(), wrong(), odd())
	for i, a := range all {
		for j, b := range all {
			if got := Same(a, b); got != plainSame(a, b) || i == j && !got {
				t.Errorf("Same(%v, %v) = %v", a, b, got)
			}
		}
	}
	base := tree(api.Node{Name: "a", Leaves: []api.Leaf{counter(5), set(nil, in(one(1), "u"))}, Below: tree(has("b", counter(6)))})
	for i, x := range []api.Tree{
		nil, base[:0], append(tree(), base[0], base[0]),
		tree(has("a", base[0].Leaves...)),
		tree(over("a", base[0].Below...)),
		tree(api.Node{Name: "b", Leaves: base[0].Leaves, Below: base[0].Below}),
		tree(api.Node{Name: "a", Leaves: base[0].Leaves[:1], Below: base[0].Below}),
		tree(api.Node{Name: "a", Leaves: []api.Leaf{counter(5), set(nil, in(one(1), "v"))}, Below: base[0].Below}),
		tree(api.Node{Name: "a", Leaves: []api.Leaf{set(nil, in(one(1), "u")), counter(5)}, Below: base[0].Below}),
		tree(api.Node{Name: "a", Leaves: base[0].Leaves, Below: tree(has("b", counter(7)))}),
		tree(api.Node{Name: "a", Leaves: base[0].Leaves, Below: tree(has("b", counter(6), leaf.New(api.Log)))}),
		tree(api.Node{Name: "a", Leaves: base[0].Leaves, Below: tree(has("b", counter(6)), has("c", counter(6)))}),
	} {
		if Same(base, x) || Same(x, base) || !Same(x, x) {
			t.Error(i, x)
		}
	}
	x := tree(api.Node{Name: "a", Leaves: []api.Leaf{{Type: api.Set, Items: []api.Item{}, Tombs: []api.Dot{}}}, Below: api.Tree{}})
	if y := tree(has("a", leaf.New(api.Set))); !Same(x, y) || !Same(y, x) || !Same(nil, api.Tree{}) || !Same(api.Tree{}, nil) {
		t.Error("empty lists and none are not the same")
	}
}

// P7.1: the leaf of a path and a type, and whether the tree has it, of any tree, path and type.
func TestLeaf(t *testing.T) {
	is := 0
	for _, x := range slices.Concat(right(), wrong(), odd()) {
		for _, p := range paths() {
			for kind := range 256 {
				want, has := plainLeaf(x, p, uint8(kind))
				got, it := Leaf(x, p, uint8(kind))
				if it != has || !leaf.Same(got, want) {
					t.Fatalf("Leaf(%v, %q, %d) = %v, %v", x, p, kind, got, it)
				}
				if has {
					is++
				}
			}
		}
	}
	if is < 100 {
		t.Error("few leaves are there:", is)
	}
}

// P7.1: one to which nothing was applied, if there is none; nothing of what is no type, even if a tree has it.
func TestLeafNone(t *testing.T) {
	x := tree(over("a", has("b", counter(5), set(nil, in(one(1), "u")), api.Leaf{Type: 5, N: 1}), has("c", api.Leaf{N: 1})))
	for _, c := range []struct {
		p    []string
		kind uint8
		want api.Leaf
		is   bool
	}{
		{path("a", "b"), api.Counter, counter(5), true},
		{path("a", "b"), api.Set, set(nil, in(one(1), "u")), true},
		{path("a", "b"), api.Register, api.Leaf{Type: api.Register}, false},
		{path("a", "b"), api.Log, api.Leaf{Type: api.Log}, false},
		{path("a", "b"), 0, api.Leaf{}, false},
		{path("a", "b"), 5, api.Leaf{}, false},
		{path("a", "b"), 255, api.Leaf{}, false},
		{path("a", "c"), 0, api.Leaf{}, false},
		{path("a", "c"), api.Counter, api.Leaf{Type: api.Counter}, false},
		{path("a"), api.Counter, api.Leaf{Type: api.Counter}, false},
		{path("b"), api.Counter, api.Leaf{Type: api.Counter}, false},
		{path("a", "b", "c"), api.Set, api.Leaf{Type: api.Set}, false},
		{path(), api.Counter, api.Leaf{Type: api.Counter}, false},
		{nil, 0, api.Leaf{}, false},
		{nil, 9, api.Leaf{}, false},
	} {
		if l, is := Leaf(x, c.p, c.kind); is != c.is || !leaf.Same(l, c.want) {
			t.Errorf("Leaf of %q, %d: %v, %v", c.p, c.kind, l, is)
		}
	}
}

// P7.1: of a name that stands twice, or a type, the first one is meant, wherever the second one leads.
func TestFirst(t *testing.T) {
	x := odd()[0]
	for p, want := range map[string]int64{"b.x": 1, "a.y": 2, "b.z": -1} {
		l, is := Leaf(x, strings.Split(p, "."), api.Counter)
		if is != (want > 0) || is && l.N != want {
			t.Errorf("%s: %v, %v", p, l, is)
		}
	}
	if l, is := Leaf(odd()[1], path("a"), api.Counter); !is || l.N != 1 {
		t.Error(l, is)
	}
	if l, is := Leaf(odd()[1], path("a"), api.Log); is || !leaf.Same(l, leaf.New(api.Log)) {
		t.Error(l, is)
	}
	if n := Names(x, path("b")); !slices.Equal(n, path("x")) {
		t.Error(n)
	}
	if n := Names(odd()[2], path("a", "b")); !slices.Equal(n, path("c")) {
		t.Error(n)
	}
}

// P7.1: the names right below a path, rising, each as often as it stands there.
func TestNames(t *testing.T) {
	for _, x := range slices.Concat(right(), wrong(), odd()) {
		for _, p := range paths() {
			if got := Names(x, p); !slices.Equal(got, plainNames(x, p)) {
				t.Fatalf("Names(%v, %q) = %q", x, p, got)
			}
		}
	}
	x := tree(has("a", counter(1)), over("b", has("c", counter(1)), over("d", has("e", counter(1)))))
	for p, want := range map[string]string{"": "a b", "a": "", "b": "c d", "b d": "e", "b c": "", "b d e": "", "c": "", "d": ""} {
		if got := Names(x, strings.Fields(p)); strings.Join(got, " ") != want {
			t.Errorf("Names of %q: %q", p, got)
		}
	}
	if n := Names(odd()[0], nil); !slices.Equal(n, path("a", "b", "b")) {
		t.Error(n)
	}
	if n := Names(odd()[3], nil); !slices.Equal(n, path("a b", "y", "z", "z", "z")) {
		t.Error(n)
	}
}

// P7.1: how many tombs all leaves have; how many leaves there are, and items in them.
func TestCounts(t *testing.T) {
	for i, x := range slices.Concat(right(), wrong(), odd()) {
		leaves, items, tombs := plainCount(x)
		if Items(x) != leaves+items || Tombs(x) != tombs {
			t.Errorf("%d: %d items, %d tombs of %v", i, Items(x), Tombs(x), x)
		}
	}
	x := tree(
		api.Node{Name: "a", Leaves: []api.Leaf{counter(5), set(dotsIn(one(1), one(2)), in(one(3), "u"))}, Below: tree(has("b", set(dotsIn(one(4)))))},
		has("b", register(1, one(1), "u"), log(said(1, one(1), "u"), said(1, one(2), "u"))),
	)
	if Items(x) != 8 || Tombs(x) != 3 {
		t.Error(Items(x), Tombs(x))
	}
	if Items(nil) != 0 || Tombs(nil) != 0 || Items(tree(has("a"))) != 0 {
		t.Error("nothing is counted")
	}
	// All leaves are counted of a tree that may not be, those of a name or type that stands twice, too.
	if Items(odd()[0]) != 4 || Items(odd()[1]) != 8 || Tombs(odd()[1]) != 1 || Tombs(odd()[3]) != 3 {
		t.Error(Items(odd()[0]), Items(odd()[1]), Tombs(odd()[1]), Tombs(odd()[3]))
	}
}

// deep tells a tree of so many levels of nodes below each other, each of a counter.
func deep(levels int) api.Tree {
	var t api.Tree
	for range levels {
		t = tree(api.Node{Name: "a", Leaves: []api.Leaf{counter(1)}, Below: t})
	}
	return t
}

// P1: calls end, and none panics, at trees as deep as inputs may be.
func TestDeep(t *testing.T) {
	const levels = 1 << 16
	x, y := deep(levels), deep(levels)
	if May(x) || !Same(x, y) || Same(x, deep(levels-1)) || Items(x) != levels || Tombs(x) != 0 {
		t.Error("deep trees are told as others")
	}
	p := slices.Repeat(path("a"), levels)
	if l, is := Leaf(x, p, api.Counter); !is || l.N != 1 {
		t.Error(l, is)
	}
	if l, is := Leaf(x, append(p, "a"), api.Counter); is || l.N != 0 {
		t.Error(l, is)
	}
	if n := Names(x, p[1:]); !slices.Equal(n, path("a")) || len(Names(x, p)) != 0 {
		t.Error(n)
	}
	e := api.Event{Dot: one(1), Time: 1, Op: api.Op{Kind: api.OpAdd, Path: path("a"), N: 1}}
	if l, f := Apply(x, e); f != api.ErrArg || l != nil {
		t.Error(len(l), f)
	}
	if l, f := Merge(nil, x, y); f != api.ErrArg || l != nil {
		t.Error(len(l), f)
	}
	if l, f := Purge(x); f != api.ErrArg || l != nil {
		t.Error(len(l), f)
	}
}

// P1: a tree that is below itself is refused.
func TestRound(t *testing.T) {
	x := tree(has("a", counter(math.MaxInt64)), has("b", counter(1)))
	x[0].Below, x[1].Below = x, x
	if May(x) || !May(tree(has("a", counter(1)))) {
		t.Error("it may be")
	}
	if l, e := Merge(x, x, x); e != api.ErrArg || l != nil {
		t.Error(e)
	}
	if l, e := Purge(x); e != api.ErrArg || l != nil {
		t.Error(e)
	}
}
