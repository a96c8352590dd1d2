package fold

import (
	"maps"
	"math"
	"math/rand"
	"slices"
	"strings"
	"testing"

	"varve/api"
	"varve/leaf"
	"varve/op"
	"varve/tree"
)

func counter(n int64) api.Leaf { return api.Leaf{Type: api.Counter, N: n} }

func register(time uint64, d api.Dot, text string) api.Leaf {
	return api.Leaf{Type: api.Register, Time: time, Dot: d, Text: text}
}

func set(tombs []api.Dot, items ...api.Item) api.Leaf {
	return api.Leaf{Type: api.Set, Items: items, Tombs: tombs}
}

func log(items ...api.Item) api.Leaf { return api.Leaf{Type: api.Log, Items: items} }

func dotsIn(l ...api.Dot) []api.Dot { return l }

// in tells a set's item.
func in(d api.Dot, text string) api.Item { return api.Item{Dot: d, Text: text} }

// said tells a log's item.
func said(time uint64, d api.Dot, text string) api.Item {
	return api.Item{Time: time, Dot: d, Text: text}
}

// has tells a node of a name and leaves, and nothing below.
func has(name string, l ...api.Leaf) api.Node { return api.Node{Name: name, Leaves: l} }

// over tells a node of a name that has just nodes below.
func over(name string, l ...api.Node) api.Node { return api.Node{Name: name, Below: l} }

func treeOf(l ...api.Node) api.Tree { return l }

// plainFold is the document's words for Fold.
func plainFold(t api.Tree, l []api.Event) (api.Tree, api.Errno) {
	if !tree.May(t) {
		return nil, api.ErrArg
	}
	for _, e := range l {
		if !op.MayEvent(e) {
			return nil, api.ErrArg
		}
	}
	for i, e := range l {
		for _, x := range l[:i] {
			if x.Dot == e.Dot {
				return nil, api.ErrTwice
			}
		}
	}
	for _, e := range plainOrder(l) {
		t, _ = tree.Apply(t, e)
	}
	return t, api.OK
}

// folded tells the fold of events; it fails where they are refused.
func folded(t *testing.T, x api.Tree, l ...api.Event) api.Tree {
	t.Helper()
	f, e := Fold(x, l)
	if e != api.OK || !tree.May(f) {
		t.Fatalf("Fold(%v, %v) = %v, %d", x, l, f, e)
	}
	return f
}

// right tells trees that may be.
func right() []api.Tree {
	u, v := in(one(1), "u"), in(at(1, 2, 3), "v")
	full := []api.Leaf{counter(-7), register(3, one(4), "w"), set(dotsIn(one(2), one(3)), u, v), log(said(1, one(9), "x"), said(2, one(8), "y"))}
	return []api.Tree{
		nil,
		{},
		treeOf(has("a", counter(5))),
		treeOf(has("a", counter(math.MinInt64)), has("b", counter(math.MaxInt64))),
		treeOf(has("a", leaf.New(api.Counter), leaf.New(api.Register), leaf.New(api.Set), leaf.New(api.Log))),
		treeOf(has("a", register(1<<40, at(15, 4, 1<<20), "\x00\xFF"))),
		treeOf(has("a", set(dotsIn(one(1))))),
		treeOf(has("a", set(nil, u)), has("b", log(said(1<<40, one(1), "")))),
		treeOf(over("a", over("b", has("c", full...)))),
		treeOf(api.Node{Name: "a", Leaves: []api.Leaf{}, Below: treeOf(has("b", counter(6)))}, api.Node{Name: "c", Leaves: full, Below: api.Tree{}}),
		treeOf(has("A", counter(1)), api.Node{Name: "a", Leaves: full, Below: treeOf(has("a", full...), over("b", has("a", full[2])))}, has("abcdefghijkl", full[3])),
	}
}

// wrong tells trees that may not be.
func wrong() []api.Tree {
	c := counter(5)
	round := treeOf(has("a", c), has("b", c))
	round[0].Below, round[1].Below = round, round
	return []api.Tree{
		treeOf(has("a")), treeOf(has("", c)), treeOf(has("abcdefghijklm", c)), treeOf(has("-", c)),
		treeOf(has("b", c), has("a", c)), treeOf(has("a", c), has("a", c)), treeOf(has("a", c, c)), treeOf(has("a", leaf.New(api.Log), c)),
		treeOf(has("a", api.Leaf{})), treeOf(has("a", api.Leaf{Type: 5})), treeOf(has("a", set(dotsIn(one(1)), in(one(1), "")))),
		treeOf(over("a", over("b", has("c", log(said(0, one(1), "")))))), treeOf(over("a", over("b", over("c", has("d", c))))), round,
	}
}

// events tells events that may be, of unlike dots.
func events() []api.Event {
	return []api.Event{
		did(one(1), 4, put("u"), "a"), did(one(2), 1, drop(one(1), at(1, 1, 1)), "a"), did(at(1, 1, 1), 9, put("v"), "a"), did(at(1, 1, 2), 3, put("u"), "a"),
		did(at(2, 1, 1), 5, text("r"), "a"), did(at(3, 1, 1), 5, text("s"), "a"), did(at(0, 4, 1), 1<<40, add(1000000), "b", "c", "d"), did(at(15, 1, 1<<20), 1, add(-3), "b", "c", "d"),
		did(one(7), 2, say("y"), "a"), did(one(8), 1, say("x"), "a"), did(one(9), 2, say(""), "a", "b"), did(one(10), 2, drop(), "c"),
	}
}

// wrongEvents tells events that may not be, each of one fault.
func wrongEvents() []api.Event {
	return []api.Event{
		{}, did(one(0), 1, add(1), "a"), did(at(16, 1, 1), 1, add(1), "a"), did(at(0, 0, 1), 1, add(1), "a"), did(at(0, 5, 1), 1, add(1), "a"), did(one(1<<20+1), 1, add(1), "a"),
		did(one(1), 0, add(1), "a"), did(one(1), 1<<40+1, add(1), "a"), did(one(1), 1, add(1)), did(one(1), 1, add(1), ""), did(one(1), 1, add(1), "a", "b", "c", "d"),
		did(one(1), 1, add(1), "a", "-"), did(one(1), 1, add(1), "abcdefghijklm"), did(one(1), 1, add(1000001), "a"), did(one(1), 1, api.Op{Kind: 6}, "a"), did(one(1), 1, api.Op{}, "a"),
		did(one(1), 1, say(strings.Repeat("y", 41)), "a"), did(one(1), 1, drop(one(2), one(1)), "a"), did(one(1), 1, drop(one(0)), "a"),
	}
}

// P10.2: the tree behind the events, applied to one.
func TestFold(t *testing.T) {
	want := treeOf(
		api.Node{Name: "a", Leaves: []api.Leaf{
			register(5, at(3, 1, 1), "s"), set(dotsIn(one(1), at(1, 1, 1)), in(at(1, 1, 2), "u")), log(said(1, one(8), "x"), said(2, one(7), "y")),
		}, Below: treeOf(has("b", log(said(2, one(9), ""))))},
		over("b", over("c", has("d", counter(999997)))),
		has("c", leaf.New(api.Set)),
	)
	if got := folded(t, nil, events()...); !tree.Same(got, want) {
		t.Error(got)
	}
	base := treeOf(has("a", counter(1), register(5, at(2, 1, 2), "q"), set(dotsIn(at(1, 1, 2)), in(one(1), "w"))), over("b", has("c", counter(2))), has("d", counter(3)))
	want = treeOf(
		api.Node{Name: "a", Leaves: []api.Leaf{
			counter(1), register(5, at(3, 1, 1), "s"), set(dotsIn(one(1), at(1, 1, 1), at(1, 1, 2))), log(said(1, one(8), "x"), said(2, one(7), "y")),
		}, Below: treeOf(has("b", log(said(2, one(9), ""))))},
		over("b", api.Node{Name: "c", Leaves: []api.Leaf{counter(2)}, Below: treeOf(has("d", counter(999997)))}),
		has("c", leaf.New(api.Set)),
		has("d", counter(3)),
	)
	if got := folded(t, base, events()...); !tree.Same(got, want) {
		t.Error(got)
	}
}

// P10.2: of no events the fold is the tree itself.
func TestFoldNone(t *testing.T) {
	for _, x := range right() {
		for _, l := range [][]api.Event{nil, {}} {
			if got := folded(t, x, l...); !tree.Same(got, x) {
				t.Errorf("%v as %v", x, got)
			}
		}
	}
}

// P10.2: of one event it is the tree behind it; events go on from one fold to the next.
func TestFoldOne(t *testing.T) {
	for _, x := range right() {
		next := x
		for _, e := range plainOrder(events()) {
			want, _ := tree.Apply(x, e)
			if got := folded(t, x, e); !tree.Same(got, want) {
				t.Errorf("%v behind %v: %v", x, e, got)
			}
			next = folded(t, next, e)
		}
		if got := folded(t, x, events()...); !tree.Same(got, next) {
			t.Errorf("%v, one by one: %v, not %v", x, next, got)
		}
	}
}

// P10.2, P1: ErrArg, and no tree, of a tree or an event that may not be, wherever it stands; also if a dot is there twice.
func TestErrArg(t *testing.T) {
	good := events()
	twice := append(slices.Clone(good), did(one(1), 77, add(1), "z"))
	for _, l := range [][]api.Event{nil, good[:1], good, twice} {
		for i, x := range wrong() {
			if got, e := Fold(x, l); e != api.ErrArg || got != nil {
				t.Errorf("tree %d with %d: %v, %d", i, len(l), got, e)
			}
		}
		for _, x := range right() {
			for i, w := range wrongEvents() {
				for j := range len(l) + 1 {
					if got, e := Fold(x, slices.Insert(slices.Clone(l), j, w)); e != api.ErrArg || got != nil {
						t.Errorf("event %d at %d of %d: %v, %d", i, j, len(l), got, e)
					}
				}
			}
		}
	}
	for _, w := range wrongEvents() {
		if got, e := Fold(wrong()[0], []api.Event{w, w}); e != api.ErrArg || got != nil {
			t.Error(got, e)
		}
	}
}

// P10.2, P1: ErrTwice, and no tree, of two events of one dot, wherever they stand and whatever else they are.
func TestErrTwice(t *testing.T) {
	good := events()
	for _, x := range right() {
		for i, e := range good {
			again := []api.Event{e, did(e.Dot, e.Time, add(1), "z"), did(e.Dot, 1, e.Op, e.Op.Path...), did(e.Dot, 1<<40, say("z"), "z")}
			for _, other := range again {
				for j := range len(good) + 1 {
					l := slices.Insert(slices.Clone(good), j, other)
					if got, f := Fold(x, l); f != api.ErrTwice || got != nil {
						t.Fatalf("%d again at %d: %v, %d", i, j, got, f)
					}
				}
				if got, f := Fold(x, []api.Event{e, other}); f != api.ErrTwice || got != nil {
					t.Fatalf("%d twice: %v, %d", i, got, f)
				}
			}
		}
	}
	e := did(one(1), 1, add(1), "a")
	if got, f := Fold(nil, slices.Repeat([]api.Event{e}, 5)); f != api.ErrTwice || got != nil {
		t.Error(got, f)
	}
	// Dots that differ in one number alone are two.
	l := []api.Event{e, did(at(1, 1, 1), 1, add(1), "a"), did(at(0, 2, 1), 1, add(1), "a"), did(one(2), 1, add(1), "a")}
	if got := folded(t, nil, l...); !tree.Same(got, treeOf(has("a", counter(4)))) {
		t.Error(got)
	}
}

// P10.2: what the tree has of an event's dot is no second event of it: the event is applied as layer 5 says it.
func TestFoldOfDotsThere(t *testing.T) {
	u := one(1)
	base := treeOf(has("a", counter(5), register(3, u, "v"), set(nil, in(u, "v")), log(said(3, u, "v"))))
	for _, x := range []struct {
		o    api.Op
		want api.Leaf
	}{
		{add(2), counter(7)},
		{text("w"), register(3, u, "v")},
		{put("w"), set(nil, in(u, "v"))},
		{drop(u), set(dotsIn(u))},
		{say("w"), log(said(3, u, "v"))},
	} {
		got := folded(t, base, did(u, 3, x.o, "a"))
		if l, is := tree.Leaf(got, []string{"a"}, x.want.Type); !is || !leaf.Same(l, x.want) {
			t.Errorf("%v: %v", x.o, l)
		}
	}
	// A register of the same time and dot stays, one of another time goes by it.
	if got := folded(t, base, did(u, 4, text("w"), "a")); !tree.Same(got, treeOf(has("a", counter(5), register(4, u, "w"), base[0].Leaves[2], base[0].Leaves[3]))) {
		t.Error(got)
	}
}

// declared tells by the whole set of events, over nothing, what each leaf is: a counter the sum of all that was added, a register the last text, a set what was put and of which no drop told the dot, a log all in order.
func declared(l []api.Event, p []string, kind uint8) (api.Leaf, bool) {
	x, is := api.Leaf{Type: kind}, false
	gone := map[api.Dot]int{}
	for _, e := range l {
		if slices.Equal(e.Op.Path, p) && op.Type(e.Op.Kind) == kind {
			is = true
			for _, d := range e.Op.Dots {
				gone[d]++
			}
		}
	}
	for _, e := range plainOrder(l) {
		if !slices.Equal(e.Op.Path, p) || op.Type(e.Op.Kind) != kind {
			continue
		}
		switch e.Op.Kind {
		case api.OpAdd:
			x.N += e.Op.N
		case api.OpSet:
			x.Time, x.Dot, x.Text = e.Time, e.Dot, e.Op.Text
		case api.OpPut:
			if gone[e.Dot] == 0 {
				x.Items = append(x.Items, in(e.Dot, e.Op.Text))
			}
		case api.OpSay:
			x.Items = append(x.Items, said(e.Time, e.Dot, e.Op.Text))
		}
	}
	byDot := func(a, b api.Dot) int {
		return slices.Compare([]uint64{uint64(a.Rep), uint64(a.Inc), a.Seq}, []uint64{uint64(b.Rep), uint64(b.Inc), b.Seq})
	}
	if kind == api.Set {
		slices.SortFunc(x.Items, func(a, b api.Item) int { return byDot(a.Dot, b.Dot) })
		x.Tombs = slices.SortedFunc(maps.Keys(gone), byDot)
	}
	return x, is
}

// paths tells the paths at which events are made.
func paths() [][]string { return [][]string{{"a"}, {"b"}, {"a", "a"}, {"a", "b"}, {"b", "a", "c"}} }

// made tells events of unlike dots, at few times, in no order; drops are of some of the dots.
func made(r *rand.Rand) []api.Event {
	var dots []api.Dot
	for _, n := range r.Perm(36) {
		dots = append(dots, at(uint8(n%3), uint32(n/3%2+1), uint64(n/6+1)))
	}
	var l []api.Event
	for _, d := range dots[:r.Intn(len(dots)+1)] {
		s := string(rune('a' + r.Intn(26)))
		some := slices.Clone(dots[:r.Intn(6)])
		slices.SortFunc(some, func(a, b api.Dot) int {
			return slices.Compare([]int{int(a.Rep), int(a.Inc), int(a.Seq)}, []int{int(b.Rep), int(b.Inc), int(b.Seq)})
		})
		ops := []api.Op{add(int64(r.Intn(2000001) - 1000000)), text(s), put(s), drop(some...), say(s)}
		l = append(l, did(d, uint64(r.Intn(5)+1), ops[r.Intn(5)], paths()[r.Intn(5)]...))
	}
	return l
}

// What follows: a fold hangs on the set of events alone, not on how they stand; over nothing each leaf is what the whole set declares.
func TestFoldOfSets(t *testing.T) {
	r := rand.New(rand.NewSource(7))
	all := right()
	for n := range 1500 {
		l := made(r)
		x := all[n%len(all)]
		got, bare := folded(t, x, l...), folded(t, nil, l...)
		want, _ := plainFold(x, l)
		if !tree.Same(got, want) {
			t.Fatalf("Fold(%v, %v) = %v, not %v", x, l, got, want)
		}
		leaves := 0
		for _, p := range paths() {
			for kind := api.Counter; kind <= api.Log; kind++ {
				want, is := declared(l, p, kind)
				if told, there := tree.Leaf(bare, p, kind); is != there || !leaf.Same(told, want) {
					t.Fatalf("%v at %q: %v, not %v", l, p, told, want)
				}
				if is {
					leaves += 1 + len(want.Items)
				}
			}
		}
		if tree.Items(bare) != leaves {
			t.Fatalf("%v has %d leaves and items, not %d", bare, tree.Items(bare), leaves)
		}
		r.Shuffle(len(l), func(i, j int) { l[i], l[j] = l[j], l[i] })
		if again := folded(t, x, l...); !tree.Same(again, got) {
			t.Fatalf("%v in another order: %v, not %v", l, again, got)
		}
	}
}

func markNode() api.Node { return api.Node{Name: "mark"} }

// handed tells a copy of a tree, at most so many names deep, whose lists, even empty ones, have room behind them.
func handed(t api.Tree, most int) api.Tree {
	if most == 0 {
		return t
	}
	h := roomy(t, markNode())
	for i, n := range h {
		h[i].Leaves, h[i].Below = roomy(n.Leaves, api.Leaf{Text: "mark"}), handed(n.Below, most-1)
		for j, l := range h[i].Leaves {
			h[i].Leaves[j].Items, h[i].Leaves[j].Tombs = roomy(l.Items, api.Item{Text: "mark"}), roomy(l.Tombs, one(99))
		}
	}
	return h
}

// whole tells whether the room behind all lists of a tree that was handed in is as it was.
func whole(h api.Tree, most int) bool {
	if most == 0 {
		return true
	}
	ok := isRoom(h, func(n api.Node) bool { return tree.Same(treeOf(n), treeOf(markNode())) })
	for _, n := range h {
		ok = ok && whole(n.Below, most-1) && isRoom(n.Leaves, func(l api.Leaf) bool { return leaf.Same(l, api.Leaf{Text: "mark"}) })
		for _, l := range n.Leaves {
			ok = ok && isRoom(l.Items, func(i api.Item) bool { return i == api.Item{Text: "mark"} }) && isRoom(l.Tombs, func(d api.Dot) bool { return d == one(99) })
		}
	}
	return ok
}

// memory tells where all elements of all lists of a tree lie.
func memory(t api.Tree) []any {
	all := cells(t)
	for _, n := range t {
		all = slices.Concat(all, cells(n.Leaves), memory(n.Below))
		for _, l := range n.Leaves {
			all = slices.Concat(all, cells(l.Items), cells(l.Tombs))
		}
	}
	return all
}

// Rules: what is handed in is not changed, neither in it nor in the room behind it; what is told has memory of its own, and no two lists of it share any.
func TestFoldOwnMemory(t *testing.T) {
	for _, x := range right() {
		for n := range len(events()) + 1 {
			l := events()[:n]
			h, he := handed(x, 4), handedEvents(l)
			got := folded(t, h, he...)
			if !isOwn(memory(got), memory(h), memoryOfEvents(he)) {
				t.Fatalf("Fold(%v, %v) is not its own", x, l)
			}
			if !whole(h, 4) || !wholeEvents(he) || !tree.Same(h, x) || !same(he, l) {
				t.Fatalf("changed: %v, %v", h, he)
			}
		}
	}
	// What is refused changes nothing, either.
	for _, x := range append(wrong()[:13], right()...) {
		for _, w := range wrongEvents() {
			l := append(events(), w)
			h, he := handed(x, 4), handedEvents(l)
			if got, e := Fold(h, he); e != api.ErrArg || got != nil || !whole(h, 4) || !wholeEvents(he) || !tree.Same(h, x) || !same(he, l) {
				t.Fatalf("changed: %v, %v", h, he)
			}
		}
	}
}

// P1: great folds end soon, too; so do those that are refused.
func TestFoldGreat(t *testing.T) {
	const n = 100000
	var l []api.Event
	for i := range n {
		l = append(l, did(one(uint64(n-i)), uint64(i%7+1), add(2), "a", "b"))
	}
	if got := folded(t, nil, l...); !tree.Same(got, treeOf(over("a", has("b", counter(2*n))))) {
		t.Error(got)
	}
	if got, e := Fold(nil, append(l, l[n/2])); e != api.ErrTwice || got != nil {
		t.Error(e)
	}
	if got, e := Fold(nil, append(l, api.Event{})); e != api.ErrArg || got != nil {
		t.Error(e)
	}
	var deep api.Tree
	for range 1 << 16 {
		deep = treeOf(api.Node{Name: "a", Leaves: []api.Leaf{counter(1)}, Below: deep})
	}
	if got, e := Fold(deep, l); e != api.ErrArg || got != nil {
		t.Error(e)
	}
	if got, e := Fold(nil, []api.Event{did(one(1), 1, drop(slices.Repeat([]api.Dot{one(1)}, n)...), slices.Repeat([]string{"a"}, n)...)}); e != api.ErrArg || got != nil {
		t.Error(e)
	}
}

// maker makes events and trees of bytes.
type maker struct{ b []byte }

// below takes a byte and tells a number below n.
func (m *maker) below(n int) int {
	if len(m.b) == 0 {
		return 0
	}
	x := m.b[0]
	m.b = m.b[1:]
	return int(x) % n
}

// dot tells a dot, mostly one that may be; of a few of them, where it is asked for.
func (m *maker) dot(few bool) api.Dot {
	if m.below(200) == 199 {
		return at(uint8(m.below(256)), uint32(m.below(7)), uint64(m.below(256))<<13)
	}
	if few {
		return at(uint8(m.below(2)), 1, uint64(m.below(3)+1))
	}
	return at(uint8(m.below(16)), uint32(m.below(4)+1), uint64(m.below(256)<<8+m.below(256)+1))
}

// event tells an event, mostly one that may be.
func (m *maker) event(few bool) api.Event {
	p := append(paths(), []string{"a"}, []string{"b"}, []string{"Z"}, []string{"abcdefghijkl"})[m.below(9)]
	if m.below(100) == 99 {
		p = [][]string{nil, {""}, {"-"}, {"a", "b", "c", "d"}}[m.below(4)]
	}
	o := api.Op{Kind: uint8(m.below(5) + 1)}
	switch o.Kind {
	case api.OpAdd:
		o.N = int64(m.below(256)) - 100
	case api.OpDrop:
		for n := range m.below(4) {
			o.Dots = append(o.Dots, one(uint64(n+1+m.below(2)*min(1, m.below(20)))))
		}
	default:
		o.Text = string(rune('a' + m.below(3)))
	}
	time := uint64(m.below(4) + 1)
	if m.below(200) == 199 {
		time = uint64(m.below(2)) << 41
	}
	return did(m.dot(few), time, o, p...)
}

// P10.1, P10.2, P1: as the document's words say it, of trees and events that bytes make.
func FuzzFold(f *testing.F) {
	r := rand.New(rand.NewSource(5))
	for range 4000 {
		b := make([]byte, r.Intn(500))
		r.Read(b)
		f.Add(b)
	}
	f.Fuzz(func(t *testing.T, b []byte) {
		m := &maker{b}
		few := m.below(6) == 0
		var x api.Tree
		for range m.below(8) {
			if y, e := tree.Apply(x, m.event(true)); e == api.OK {
				x = y
			}
		}
		if m.below(30) == 29 {
			x = append(x, wrong()[m.below(13)]...)
		}
		var l []api.Event
		for len(m.b) > 0 {
			l = append(l, m.event(few))
		}
		h, he := handed(x, 4), handedEvents(l)
		if got := Order(he); !same(got, plainOrder(l)) {
			t.Fatalf("Order(%v) = %v", l, got)
		}
		got, e := Fold(h, he)
		want, f := plainFold(x, l)
		if e != f || !tree.Same(got, want) || e != api.OK && got != nil {
			t.Fatalf("Fold(%v, %v) = %v, %d, not %v, %d", x, l, got, e, want, f)
		}
		if !whole(h, 4) || !wholeEvents(he) || !tree.Same(h, x) || !same(he, l) {
			t.Fatalf("changed: %v, %v", x, l)
		}
	})
}
