package tree

import (
	"maps"
	"math/rand"
	"slices"
	"strings"
	"testing"

	"varve/api"
	"varve/fuse"
	"varve/leaf"
	"varve/op"
)

// key is where a leaf stands: a path, its names joined by dots, and a type.
type key struct {
	path string
	kind uint8
}

// rows is what a tree that may be stands for.
type rows map[key]api.Leaf

// flat tells the rows of a tree.
func flat(t api.Tree) rows {
	all := rows{}
	for _, n := range t {
		for _, l := range n.Leaves {
			all[key{n.Name, l.Type}] = l
		}
		for k, l := range flat(n.Below) {
			all[key{n.Name + "." + k.path, k.kind}] = l
		}
	}
	return all
}

// built tells the tree of rows.
func built(all rows) api.Tree {
	below := map[string]rows{}
	leaves := map[string][]api.Leaf{}
	for k, l := range all {
		name, rest, more := strings.Cut(k.path, ".")
		if below[name] == nil {
			below[name] = rows{}
		}
		if more {
			below[name][key{rest, k.kind}] = l
		} else {
			leaves[name] = append(leaves[name], l)
		}
	}
	var t api.Tree
	for _, name := range slices.Sorted(maps.Keys(below)) {
		slices.SortFunc(leaves[name], func(a, b api.Leaf) int { return int(a.Type) - int(b.Type) })
		t = append(t, api.Node{Name: name, Leaves: leaves[name], Below: built(below[name])})
	}
	return t
}

// leafOf tells the leaf of a key, one to which nothing was applied if there is none.
func (r rows) leafOf(k key) api.Leaf {
	l, is := r[k]
	if !is {
		return api.Leaf{Type: k.kind}
	}
	return l
}

// plainApply is the document's words for Apply.
func plainApply(t api.Tree, e api.Event) (api.Tree, api.Errno) {
	if !plainMay(t, 1) || !op.MayEvent(e) {
		return nil, api.ErrArg
	}
	r := flat(t)
	k := key{strings.Join(e.Op.Path, "."), [...]uint8{0, 1, 2, 3, 3, 4}[e.Op.Kind]}
	l, f := leaf.Apply(r.leafOf(k), e)
	r[k] = l
	return built(r), f
}

// plainMerge is the document's words for Merge.
func plainMerge(l, a, b api.Tree) (api.Tree, api.Errno) {
	if !plainMay(l, 1) || !plainMay(a, 1) || !plainMay(b, 1) {
		return nil, api.ErrArg
	}
	x, y, z, all := flat(l), flat(a), flat(b), rows{}
	for _, r := range []rows{x, y, z} {
		for k := range r {
			m, e := fuse.Merge(x.leafOf(k), y.leafOf(k), z.leafOf(k))
			if e != api.OK {
				return nil, e
			}
			all[k] = m
		}
	}
	return built(all), api.OK
}

// plainPurge is the document's words for Purge.
func plainPurge(t api.Tree) (api.Tree, api.Errno) {
	if !plainMay(t, 1) {
		return nil, api.ErrArg
	}
	r := flat(t)
	for k, l := range r {
		l.Tombs = nil
		r[k] = l
	}
	return built(r), api.OK
}

// did tells an event of a dot, at the time of its number, at a path.
func did(d api.Dot, o api.Op, p ...string) api.Event {
	o.Path = p
	return api.Event{Dot: d, Time: d.Seq, Op: o}
}

func add(n int64) api.Op          { return api.Op{Kind: api.OpAdd, N: n} }
func text(s string) api.Op        { return api.Op{Kind: api.OpSet, Text: s} }
func put(s string) api.Op         { return api.Op{Kind: api.OpPut, Text: s} }
func drop(dots ...api.Dot) api.Op { return api.Op{Kind: api.OpDrop, Text: "u", Dots: dots} }
func say(s string) api.Op         { return api.Op{Kind: api.OpSay, Text: s} }

// behind tells the tree behind one and some events; it fails where one is refused.
func behind(t *testing.T, x api.Tree, l ...api.Event) api.Tree {
	t.Helper()
	for _, e := range l {
		y, f := Apply(x, e)
		if f != api.OK || !plainMay(y, 1) {
			t.Fatalf("Apply(%v, %v) = %v, %d", x, e, y, f)
		}
		x = y
	}
	return x
}

// merge tells the merge of trees; it fails where they are refused.
func merge(t *testing.T, l, a, b api.Tree) api.Tree {
	t.Helper()
	m, e := Merge(l, a, b)
	if e != api.OK || !plainMay(m, 1) {
		t.Fatalf("Merge(%v, %v, %v) = %v, %d", l, a, b, m, e)
	}
	return m
}

// P7.2, P7.3: the document's examples.
func TestExamples(t *testing.T) {
	l := behind(t, nil, did(one(1), add(5), "a", "b"))
	if want := tree(over("a", has("b", counter(5)))); !Same(l, want) {
		t.Error(l)
	}
	a, b := behind(t, l, did(one(2), add(3), "a", "b")), behind(t, l, did(one(3), add(4), "a", "b"))
	if m := merge(t, l, a, b); !Same(m, tree(over("a", has("b", counter(12))))) {
		t.Error(m)
	}
}

// P7.2: nodes that are missing come, each in its place; all others stay.
func TestApplyNodes(t *testing.T) {
	c := func(name string) api.Node { return has(name, counter(1)) }
	base := tree(api.Node{Name: "b", Leaves: []api.Leaf{counter(1)}, Below: tree(c("b"), c("d"))}, over("d", c("b")))
	more := did(one(1), add(1)).Op
	for i, x := range []struct {
		p    []string
		want api.Tree
	}{
		{path("a"), tree(c("a"), base[0], base[1])},
		{path("c"), tree(base[0], c("c"), base[1])},
		{path("e"), tree(base[0], base[1], c("e"))},
		{path("B"), tree(c("B"), base[0], base[1])},
		{path("bb"), tree(base[0], c("bb"), base[1])},
		{path("a", "b", "c"), tree(over("a", over("b", c("c"))), base[0], base[1])},
		{path("b"), tree(api.Node{Name: "b", Leaves: []api.Leaf{counter(2)}, Below: base[0].Below}, base[1])},
		{path("d"), tree(base[0], api.Node{Name: "d", Leaves: []api.Leaf{counter(1)}, Below: base[1].Below})},
		{path("b", "a"), tree(api.Node{Name: "b", Leaves: base[0].Leaves, Below: tree(c("a"), c("b"), c("d"))}, base[1])},
		{path("b", "c"), tree(api.Node{Name: "b", Leaves: base[0].Leaves, Below: tree(c("b"), c("c"), c("d"))}, base[1])},
		{path("b", "d"), tree(api.Node{Name: "b", Leaves: base[0].Leaves, Below: tree(c("b"), has("d", counter(2)))}, base[1])},
		{path("b", "d", "a"), tree(api.Node{Name: "b", Leaves: base[0].Leaves, Below: tree(c("b"), api.Node{Name: "d", Leaves: []api.Leaf{counter(1)}, Below: tree(c("a"))})}, base[1])},
		{path("d", "e"), tree(base[0], over("d", c("b"), c("e")))},
	} {
		if got := behind(t, base, did(one(1), more, x.p...)); !Same(got, x.want) {
			t.Errorf("%d: %v", i, got)
		}
	}
}

// P7.2: the leaf of the operation's type is the one behind the event; one that is missing comes among the others.
func TestApplyLeaves(t *testing.T) {
	d := one(7)
	all := []api.Leaf{counter(5), register(7, d, "v"), set(nil, in(d, "w")), log(said(7, d, "x"))}
	ops := []api.Op{add(5), text("v"), put("w"), say("x")}
	// Of each choice of types that are there and each other one.
	for have := range 16 {
		var ahead []api.Leaf
		for i, l := range all {
			if have>>i&1 == 1 {
				ahead = append(ahead, l)
			}
		}
		for i, o := range ops {
			var want []api.Leaf
			for j, l := range all {
				if j == i && have>>i&1 == 1 && i == 0 {
					l = counter(10)
				}
				if j == i || have>>j&1 == 1 {
					want = append(want, l)
				}
			}
			base := tree(over("a", has("b", ahead...), has("c", counter(1))))
			if have == 0 {
				base = tree(over("a", has("c", counter(1))))
			}
			if got := behind(t, base, did(d, o, "a", "b")); !Same(got, tree(over("a", has("b", want...), has("c", counter(1))))) {
				t.Errorf("%d of %b: %v", i, have, got)
			}
		}
	}
}

// P7.2: a leaf comes by an event that leaves it as one to which nothing was applied; what is dropped ahead of its coming does not come.
func TestApplyNothing(t *testing.T) {
	if l := behind(t, nil, did(one(1), add(0), "a")); !Same(l, tree(has("a", counter(0)))) {
		t.Error(l)
	}
	if l := behind(t, nil, did(one(1), drop(), "a")); !Same(l, tree(has("a", leaf.New(api.Set)))) {
		t.Error(l)
	}
	if l := behind(t, nil, did(one(2), drop(one(1)), "a"), did(one(1), put("u"), "a")); !Same(l, tree(has("a", set(dotsIn(one(1)))))) {
		t.Error(l)
	}
	// A drop is of the set at its path alone.
	l := behind(t, nil, did(one(1), put("u"), "a"), did(one(2), drop(one(1)), "b"))
	if !Same(l, tree(has("a", set(nil, in(one(1), "u"))), has("b", set(dotsIn(one(1)))))) {
		t.Error(l)
	}
}

// wrongEvents tells events that may not be, each of one fault.
func wrongEvents() []api.Event {
	l := []api.Event{
		{}, did(one(0), add(1), "a"), did(at(16, 1, 1), add(1), "a"), did(at(0, 5, 1), add(1), "a"), did(one(1<<20+1), add(1), "a"),
		did(one(1), add(1)), did(one(1), add(1), ""), did(one(1), add(1), "a", "b", "c", "d"), did(one(1), add(1), "a", "-"), did(one(1), add(1), "abcdefghijklm"),
		did(one(1), add(1000001), "a"), did(one(1), api.Op{Kind: 6}, "a"), did(one(1), api.Op{}, "a"), did(one(1), api.Op{Kind: 255}, "a"),
		did(one(1), say(strings.Repeat("y", 41)), "a"), did(one(1), drop(one(2), one(1)), "a"), did(one(1), drop(one(0)), "a"),
	}
	early, late := did(one(1), add(1), "a"), did(one(1), add(1), "a")
	early.Time, late.Time = 0, 1<<40+1
	return append(l, early, late)
}

// P7.2, P7.3, P1: ErrArg, and no tree, of a tree or an event that may not be, wherever it is handed in.
func TestErrArg(t *testing.T) {
	good := did(one(1), add(1), "a", "b")
	for _, x := range append(wrong(), odd()...) {
		if l, e := Apply(x, good); e != api.ErrArg || l != nil {
			t.Errorf("Apply(%v) = %v, %d", x, l, e)
		}
		if l, e := Apply(x, api.Event{}); e != api.ErrArg || l != nil {
			t.Errorf("Apply(%v) = %v, %d", x, l, e)
		}
		if l, e := Purge(x); e != api.ErrArg || l != nil {
			t.Errorf("Purge(%v) = %v, %d", x, l, e)
		}
		for _, y := range right() {
			for _, l := range [][3]api.Tree{{x, y, y}, {y, x, y}, {y, y, x}, {x, x, y}, {x, y, x}, {y, x, x}, {x, x, x}} {
				if m, e := Merge(l[0], l[1], l[2]); e != api.ErrArg || m != nil {
					t.Errorf("Merge(%v) = %v, %d", l, m, e)
				}
			}
		}
	}
	for _, x := range right() {
		for i, e := range wrongEvents() {
			if l, f := Apply(x, e); f != api.ErrArg || l != nil {
				t.Errorf("Apply(%v, %d) = %v, %d", x, i, l, f)
			}
		}
	}
}

// P7.3: of each path and type of which one of the three has a leaf: the merge of the three, whoever has it.
func TestMergeWho(t *testing.T) {
	u, v, w := in(one(1), "u"), in(one(2), "v"), in(one(3), "w")
	mine := [3]api.Leaf{set(dotsIn(one(9)), u), set(dotsIn(one(8)), v), set(nil, w)}
	of := func(who, i int, l api.Leaf) api.Tree {
		if who>>i&1 == 0 {
			return nil
		}
		return tree(over("a", has("b", l)))
	}
	for who, want := range map[int]api.Leaf{
		1: leaf.New(api.Set), 2: mine[1], 3: mine[1], 4: mine[2], 5: mine[2], 6: set(dotsIn(one(8)), v, w), 7: set(dotsIn(one(8)), v, w),
	} {
		if m := merge(t, of(who, 0, mine[0]), of(who, 1, mine[1]), of(who, 2, mine[2])); !Same(m, tree(over("a", has("b", want)))) {
			t.Errorf("sets of %b: %v", who, m)
		}
	}
	for who, want := range map[int]int64{1: -1, 2: 20, 3: 19, 4: 300, 5: 299, 6: 320, 7: 319} {
		if m := merge(t, of(who, 0, counter(1)), of(who, 1, counter(20)), of(who, 2, counter(300))); !Same(m, tree(over("a", has("b", counter(want))))) {
			t.Errorf("counters of %b: %v", who, m)
		}
	}
	if m := merge(t, nil, nil, api.Tree{}); len(m) != 0 {
		t.Error(m)
	}
}

// P7.3: names and types of all three come, in order, each once.
func TestMergeNames(t *testing.T) {
	l := tree(has("b", counter(1)), over("d", has("x", leaf.New(api.Register))))
	a := tree(has("a", counter(2)), has("b", counter(3), log(said(1, one(1), "u"))), over("d", has("y", counter(1))))
	b := tree(has("b", counter(5), leaf.New(api.Set)), has("c", counter(6)), has("d", counter(7)), over("e", has("b", counter(1))))
	want := tree(
		has("a", counter(2)),
		has("b", counter(7), leaf.New(api.Set), log(said(1, one(1), "u"))),
		has("c", counter(6)),
		api.Node{Name: "d", Leaves: []api.Leaf{counter(7)}, Below: tree(has("x", leaf.New(api.Register)), has("y", counter(1)))},
		over("e", has("b", counter(1))),
	)
	if m := merge(t, l, a, b); !Same(m, want) {
		t.Error(m)
	}
	if m := merge(t, l, b, a); !Same(m, want) {
		t.Error(m)
	}
}

// P7.3: a is the first one, b the second one, where layer 6 tells them apart.
func TestMergeOrder(t *testing.T) {
	a, b := tree(has("a", register(3, one(1), "u"), set(nil, in(one(1), "u")))), tree(has("a", register(3, one(1), "v"), set(nil, in(one(1), "v"))))
	if m := merge(t, nil, a, b); !Same(m, tree(has("a", register(3, one(1), "v"), set(nil, in(one(1), "u"))))) {
		t.Error(m)
	}
}

// P7.3: as the document's words say it, of all trees of some shapes.
func TestMergeAll(t *testing.T) {
	all := right()
	for _, l := range all {
		for _, a := range all {
			for _, b := range all {
				want, _ := plainMerge(l, a, b)
				if m := merge(t, l, a, b); !Same(m, want) {
					t.Fatalf("Merge(%v, %v, %v) = %v", l, a, b, m)
				}
			}
		}
	}
}

// P7.3: a tree purged has all its leaves, at all depths, without tombs; nodes and leaves without anything in them stay.
func TestPurge(t *testing.T) {
	u := in(one(3), "u")
	x := tree(
		api.Node{Name: "a", Leaves: []api.Leaf{counter(5), set(dotsIn(one(1), one(2)), u)}, Below: tree(over("b", has("c", set(dotsIn(one(4))), log(said(1, one(1), "v")))))},
		has("b", register(1, one(1), "u")), has("c", set(dotsIn(one(5)))), has("d", set(nil, u)), has("e", leaf.New(api.Set)),
	)
	want := tree(
		api.Node{Name: "a", Leaves: []api.Leaf{counter(5), set(nil, u)}, Below: tree(over("b", has("c", set(nil), log(said(1, one(1), "v")))))},
		has("b", register(1, one(1), "u")), has("c", set(nil)), has("d", set(nil, u)), has("e", leaf.New(api.Set)),
	)
	if p, e := Purge(x); e != api.OK || !Same(p, want) || !plainMay(p, 1) {
		t.Error(p, e)
	}
	for i, x := range right() {
		want, _ := plainPurge(x)
		p, e := Purge(x)
		if e != api.OK || !Same(p, want) || Tombs(p) != 0 || Items(p) != Items(x) {
			t.Errorf("%d: %v, %d", i, p, e)
		}
		if again, e := Purge(p); e != api.OK || !Same(again, p) {
			t.Errorf("%d, again: %v, %d", i, again, e)
		}
	}
}

// done tells an event of a dot at one of some paths; a drop is of some of the dots.
func done(r *rand.Rand, d api.Dot, dots []api.Dot) api.Event {
	o := api.Op{Kind: uint8(r.Intn(5) + 1), Text: string(rune('a' + r.Intn(26)))}
	switch o.Kind {
	case api.OpAdd:
		o.N, o.Text = int64(r.Intn(2000001)-1000000), ""
	case api.OpDrop:
		some := map[api.Dot]int{}
		for range r.Intn(5) {
			some[dots[r.Intn(len(dots))]] = 1
		}
		o.Dots = slices.SortedFunc(maps.Keys(some), func(a, b api.Dot) int {
			return slices.Compare([]uint64{uint64(a.Rep), uint64(a.Inc), a.Seq}, []uint64{uint64(b.Rep), uint64(b.Inc), b.Seq})
		})
	}
	o.Path = [][]string{{"a"}, {"b"}, {"a", "a"}, {"a", "b"}, {"b", "a", "c"}}[r.Intn(5)]
	return api.Event{Dot: d, Time: uint64(r.Intn(5) + 1), Op: o}
}

// What follows: events of unlike dots may be applied in any order; of trees behind some events and unlike others the merge is the tree behind all.
func TestMergeIsAllEvents(t *testing.T) {
	r := rand.New(rand.NewSource(13))
	for range 1500 {
		var dots []api.Dot
		for _, n := range r.Perm(36) {
			dots = append(dots, at(uint8(n%3), uint32(n/3%2+1), uint64(n/6+1)))
		}
		var events []api.Event
		for _, d := range dots[:r.Intn(len(dots)+1)] {
			events = append(events, done(r, d, dots))
		}
		first := r.Intn(len(events) + 1)
		second := first + r.Intn(len(events)-first+1)
		l := behind(t, nil, events[:first]...)
		a, b := behind(t, l, events[first:second]...), behind(t, l, events[second:]...)
		want := behind(t, a, events[second:]...)
		r.Shuffle(len(events), func(i, j int) { events[i], events[j] = events[j], events[i] })
		if x := behind(t, nil, events...); !Same(x, want) {
			t.Fatalf("%v in another order: %v, not %v", events, x, want)
		}
		for i, m := range []api.Tree{merge(t, l, a, b), merge(t, l, b, a), merge(t, a, a, want), merge(t, want, want, want)} {
			if !Same(m, want) {
				t.Fatalf("%d: %v of %v, %v, %v, not %v", i, m, l, a, b, want)
			}
		}
		p, _ := Purge(want)
		if Items(p) != Items(want) || Tombs(p) != 0 || !Same(merge(t, l, l, l), l) {
			t.Fatalf("%v purged: %v", want, p)
		}
	}
}

// roomy tells the list with room behind it, which must stay as it is.
func roomy[T any](l []T, mark T) []T {
	all := append(slices.Clone(l), mark, mark)
	return all[:len(l)]
}

func markNode() api.Node { return api.Node{Name: "mark"} }

// handed tells a copy of a tree whose lists, even empty ones, have room behind them.
func handed(t api.Tree) api.Tree {
	h := roomy(t, markNode())
	for i, n := range h {
		h[i].Leaves, h[i].Below = roomy(n.Leaves, api.Leaf{Text: "mark"}), handed(n.Below)
		for j, l := range h[i].Leaves {
			h[i].Leaves[j].Items, h[i].Leaves[j].Tombs = roomy(l.Items, api.Item{Text: "mark"}), roomy(l.Tombs, one(99))
		}
	}
	return h
}

// isRoom tells whether the room behind a list is as it was handed in.
func isRoom[T any](l []T, is func(T) bool) bool {
	room := l[len(l) : len(l)+2]
	return is(room[0]) && is(room[1])
}

// whole tells whether the room behind all lists of a tree that was handed in is as it was.
func whole(h api.Tree) bool {
	ok := isRoom(h, func(n api.Node) bool { return Same(tree(n), tree(markNode())) })
	for _, n := range h {
		ok = ok && whole(n.Below) && isRoom(n.Leaves, func(l api.Leaf) bool { return leaf.Same(l, api.Leaf{Text: "mark"}) })
		for _, l := range n.Leaves {
			ok = ok && isRoom(l.Items, func(i api.Item) bool { return i == api.Item{Text: "mark"} }) && isRoom(l.Tombs, func(d api.Dot) bool { return d == one(99) })
		}
	}
	return ok
}

// cells tells where all elements of a list lie, its room's too.
func cells[T any](l []T) []any {
	var all []any
	for i := range l[:cap(l)] {
		all = append(all, &l[:cap(l)][i])
	}
	return all
}

// memory tells where all elements of all lists of a tree lie.
func memory(t api.Tree) []any {
	all := cells(t)
	for _, n := range t {
		all = slices.Concat(all, cells(n.Leaves), memory(n.Below))
		for _, l := range n.Leaves {
			all = slices.Concat(all, cells(l.Items), cells(l.Tombs))
		}
	}
	return all
}

// isOwn tells whether what is told lies nowhere twice, and nowhere where what was handed in lies.
func isOwn(told []any, handed ...[]any) bool {
	count := map[any]int{}
	for _, p := range slices.Concat(append(handed, told)...) {
		count[p]++
	}
	for _, p := range told {
		if count[p] > 1 {
			return false
		}
	}
	return true
}

// Rules: what is handed in is not changed, neither in it nor in the room behind it; what is told has memory of its own, and no two lists of it share any.
func TestOwnMemory(t *testing.T) {
	for _, a := range slices.Concat(right(), wrong(), odd()) {
		h := handed(a)
		m := memory(h)
		if p, _ := Purge(h); !isOwn(memory(p), m) {
			t.Fatalf("Purge(%v) is not its own", a)
		}
		for _, b := range right() {
			hb := handed(b)
			if x, _ := Merge(h, hb, h); !isOwn(memory(x), m, memory(hb)) {
				t.Fatalf("Merge of %v and %v is not its own", a, b)
			}
			if x, _ := Merge(hb, h, hb); !isOwn(memory(x), m, memory(hb)) {
				t.Fatalf("Merge of %v and %v is not its own", b, a)
			}
			if !whole(hb) || !Same(hb, b) {
				t.Fatalf("Merge changed %v", b)
			}
		}
		for _, p := range paths() {
			for kind := range uint8(6) {
				l, _ := Leaf(h, p, kind)
				if !isOwn(slices.Concat(cells(l.Items), cells(l.Tombs)), m) {
					t.Fatalf("Leaf(%v, %q, %d) is not its own", a, p, kind)
				}
				e := api.Event{Dot: one(6), Time: 6, Op: api.Op{Kind: kind, Path: roomy(p, "mark")}}
				if kind == api.OpDrop {
					e.Op.Dots = roomy(dotsIn(one(1), one(7)), one(99))
				}
				x, _ := Apply(h, e)
				if !isOwn(memory(x), m, cells(e.Op.Dots)) || !slices.Equal(e.Op.Path[:cap(e.Op.Path)][:len(p)+2], append(slices.Clone(p), "mark", "mark")) {
					t.Fatalf("Apply(%v, %v) is not its own", a, e)
				}
			}
			Names(h, p)
		}
		Tombs(h)
		Items(h)
		Same(h, h)
		May(h)
		if !whole(h) || !Same(h, a) {
			t.Fatalf("changed: %v", a)
		}
	}
}

// P1: great trees' calls end soon, too.
func TestGreat(t *testing.T) {
	const n = 100000
	var a, b api.Tree
	for i := range n {
		name := string([]byte{'a' + byte(i/17576), 'a' + byte(i/676%26), 'a' + byte(i/26%26), 'a' + byte(i%26)})
		a = append(a, has(name, counter(1)))
		b = append(b, has(name+"x", counter(1), leaf.New(api.Log)))
	}
	x := tree(over("a", over("b", a...)))
	y := tree(over("a", over("b", b...)))
	if m := merge(t, x, x, y); Items(m) != 3*n || len(Names(m, path("a", "b"))) != 2*n || Tombs(m) != 0 {
		t.Error(Items(m))
	}
	if p, e := Purge(y); e != api.OK || !Same(p, y) {
		t.Error(e)
	}
	z := behind(t, x, did(one(1), add(4), "a", "b", "zz"), did(one(1), add(4), "a", "b", a[n/2].Name))
	if l, is := Leaf(z, path("a", "b", a[n/2].Name), api.Counter); !is || l.N != 5 || Items(z) != n+1 {
		t.Error(l, is, Items(z))
	}
}

// maker makes trees of bytes.
type maker struct{ b []byte }

// below takes a byte and tells a number below n.
func (m *maker) below(n int) int {
	if len(m.b) == 0 {
		return 0
	}
	x := m.b[0]
	m.b = m.b[1:]
	return int(x) % n
}

// dot tells a dot, mostly one of few that may be.
func (m *maker) dot() api.Dot {
	if m.below(60) == 59 {
		return at(uint8(m.below(256)), uint32(m.below(7)), uint64(m.below(256))<<13)
	}
	return at(uint8(m.below(2)), 1, uint64(m.below(4)+1))
}

// name tells a name, seldom one that may not be.
func (m *maker) name() string {
	return []string{"a", "b", "c", "a0", "Z", "a", "b", "c", "abcdefghijkl", "a", "b", "c", "a", "b", "c", "a", "b", "c", "", "-"}[m.below(20-2*min(1, m.below(8)))]
}

// path tells a path, mostly one that may be.
func (m *maker) path() []string {
	var l []string
	for range []int{1, 2, 3, 1, 2, 3, 1, 2, 3, 0, 4}[m.below(11)] {
		l = append(l, m.name())
	}
	return l
}

// event tells an event, mostly one that may be.
func (m *maker) event() api.Event {
	o := api.Op{Kind: uint8(m.below(5) + 1), Path: m.path()}
	switch o.Kind {
	case api.OpAdd:
		o.N = int64(m.below(256)) - 100
	case api.OpDrop:
		for n := range m.below(4) {
			o.Dots = append(o.Dots, one(uint64(n+1+m.below(2))))
		}
	default:
		o.Text = strings.Repeat("y", m.below(42))
	}
	return api.Event{Dot: m.dot(), Time: uint64(m.below(20)), Op: o}
}

// grown tells a tree behind some events, seldom one that was spoilt.
func (m *maker) grown(t api.Tree) api.Tree {
	for range m.below(12) {
		if x, f := plainApply(t, m.event()); f == api.OK {
			t = x
		}
	}
	if m.below(8) == 7 {
		t = slices.Clone(t)
		m.spoil(t)
	}
	return t
}

// spoil changes one thing in a tree that is its own, so that it mostly may not be.
func (m *maker) spoil(t api.Tree) {
	if len(t) == 0 {
		return
	}
	n := &t[m.below(len(t))]
	n.Leaves, n.Below = slices.Clone(n.Leaves), slices.Clone(n.Below)
	switch m.below(7) {
	case 0:
		n.Name = m.name()
	case 1:
		n.Leaves = append(n.Leaves, api.Leaf{Type: uint8(m.below(6))})
	case 2:
		slices.Reverse(n.Leaves)
	case 3:
		n.Below = append(n.Below, has(m.name(), counter(1)))
	case 4:
		n.Leaves = nil
	case 5:
		n.Below = tree(over("a", over("b", over("c", n.Below...))))
	default:
		m.spoil(n.Below)
	}
}

// checkTold fails where a tree that is told is not the one that is wanted.
func checkTold(t *testing.T, what string, got api.Tree, e api.Errno, want api.Tree, f api.Errno) {
	t.Helper()
	if e != f || !plainSame(got, want) || e == api.OK && !plainMay(got, 1) || e != api.OK && got != nil {
		t.Fatalf("%s is %v, %d, not %v, %d", what, got, e, want, f)
	}
}

// P7.1 to P7.3, P1: as the document's words say it, of trees, paths and events that bytes make.
func FuzzTree(f *testing.F) {
	r := rand.New(rand.NewSource(5))
	for range 5000 {
		b := make([]byte, r.Intn(600))
		r.Read(b)
		f.Add(b)
	}
	f.Fuzz(func(t *testing.T, b []byte) {
		m := &maker{b}
		e, p := m.event(), m.path()
		l := m.grown(nil)
		x, y := m.grown(l), m.grown(l)
		hl, hx, hy := handed(l), handed(x), handed(y)

		if May(hx) != plainMay(x, 1) || Same(hx, hy) != plainSame(x, y) || !Same(hx, x) {
			t.Fatalf("May or Same of %v, %v", x, y)
		}
		for _, q := range [][]string{p, e.Op.Path, {"a"}, {"b"}, {"c"}, {"a", "b"}, {"b", "a"}, {"c", "c"}, nil} {
			for kind := range uint8(6) {
				got, is := Leaf(hx, q, kind)
				if want, has := plainLeaf(x, q, kind); is != has || !leaf.Same(got, want) {
					t.Fatalf("Leaf(%v, %q, %d) = %v, %v", x, q, kind, got, is)
				}
			}
			if n := Names(hx, q); !slices.Equal(n, plainNames(x, q)) {
				t.Fatalf("Names(%v, %q) = %q", x, q, n)
			}
		}
		if leaves, items, tombs := plainCount(x); Items(hx) != leaves+items || Tombs(hx) != tombs {
			t.Fatalf("Items, Tombs of %v: %d, %d", x, Items(hx), Tombs(hx))
		}
		told, errno := Apply(hx, e)
		want, wantErrno := plainApply(x, e)
		checkTold(t, "Apply", told, errno, want, wantErrno)
		told, errno = Merge(hl, hx, hy)
		want, wantErrno = plainMerge(l, x, y)
		checkTold(t, "Merge", told, errno, want, wantErrno)
		told, errno = Purge(hx)
		want, wantErrno = plainPurge(x)
		checkTold(t, "Purge", told, errno, want, wantErrno)
		if !whole(hl) || !whole(hx) || !whole(hy) || !plainSame(hl, l) || !plainSame(hx, x) || !plainSame(hy, y) {
			t.Fatalf("changed: %v, %v, %v", l, x, y)
		}
	})
}
