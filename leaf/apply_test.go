package leaf

import (
	"maps"
	"math"
	"math/rand"
	"slices"
	"strings"
	"testing"

	"varve/api"
	"varve/op"
)

// did tells the event of replica 0's first life: its n-th one, at this time, on a leaf at a.
func did(n, time uint64, o api.Op) api.Event {
	o.Path = []string{"a"}
	return api.Event{Dot: at(0, 1, n), Time: time, Op: o}
}

func add(n int64) api.Op          { return api.Op{Kind: api.OpAdd, N: n} }
func set(text string) api.Op      { return api.Op{Kind: api.OpSet, Text: text} }
func put(text string) api.Op      { return api.Op{Kind: api.OpPut, Text: text} }
func drop(dots ...api.Dot) api.Op { return api.Op{Kind: api.OpDrop, Text: "u", Dots: dots} }
func say(text string) api.Op      { return api.Op{Kind: api.OpSay, Text: text} }

func items(l ...api.Item) []api.Item { return l }
func dotsIn(l ...api.Dot) []api.Dot  { return l }

func isZero(l api.Leaf) bool { return Same(l, api.Leaf{}) && l.Items == nil && l.Tombs == nil }

// goesWith tells whether operations of a kind go with leaves of a type.
func goesWith(kind, leaf uint8) bool {
	switch kind {
	case 1:
		return leaf == 1
	case 2:
		return leaf == 2
	case 3, 4:
		return leaf == 3
	case 5:
		return leaf == 4
	}
	return false
}

// compare tells the order of dots.
func compare(a, b api.Dot) int {
	if plainAhead(0, a, 0, b) {
		return -1
	} else if plainAhead(0, b, 0, a) {
		return 1
	}
	return 0
}

// compareItems tells the order of items, by time, then by dot.
func compareItems(a, b api.Item) int {
	if plainAhead(a.Time, a.Dot, b.Time, b.Dot) {
		return -1
	} else if plainAhead(b.Time, b.Dot, a.Time, a.Dot) {
		return 1
	}
	return 0
}

// behind tells the leaf of a type behind the events; it fails where one is refused.
func behind(t *testing.T, kind uint8, l ...api.Event) api.Leaf {
	t.Helper()
	x := New(kind)
	for _, e := range l {
		y, f := Apply(x, e)
		if f != api.OK || !plainMay(y) {
			t.Fatalf("Apply(%v, %v) = %v, %d", x, e, y, f)
		}
		x = y
	}
	return x
}

// plainApply is the document's words for Apply, in sets of dots.
func plainApply(l api.Leaf, e api.Event) (api.Leaf, api.Errno) {
	if !plainMay(l) || !op.MayEvent(e) {
		return api.Leaf{}, api.ErrArg
	}
	if !goesWith(e.Op.Kind, l.Type) {
		return api.Leaf{}, api.ErrKind
	}
	have, gone := map[api.Dot]api.Item{}, map[api.Dot]int{}
	for _, i := range l.Items {
		have[i.Dot] = i
	}
	for _, d := range l.Tombs {
		gone[d] = 1
	}
	_, is := have[e.Dot]
	switch e.Op.Kind {
	case 1:
		l.N = int64(uint64(l.N) + uint64(e.Op.N))
	case 2:
		if l.Time == 0 || plainAhead(l.Time, l.Dot, e.Time, e.Dot) {
			l.Time, l.Dot, l.Text = e.Time, e.Dot, e.Op.Text
		}
	case 3:
		if !is && gone[e.Dot] == 0 {
			have[e.Dot] = api.Item{Dot: e.Dot, Text: e.Op.Text}
		}
	case 4:
		for _, d := range e.Op.Dots {
			gone[d] = 1
			delete(have, d)
		}
	case 5:
		if !is {
			have[e.Dot] = api.Item{Time: e.Time, Dot: e.Dot, Text: e.Op.Text}
		}
	}
	l.Items = slices.SortedFunc(maps.Values(have), compareItems)
	l.Tombs = slices.SortedFunc(maps.Keys(gone), compare)
	return l, api.OK
}

// events tells events of all kinds, that may be and that may not be.
func events() []api.Event {
	var l []api.Event
	ops := []api.Op{
		{}, {Kind: 6}, {Kind: 255}, add(0), add(5), add(-1000000), add(1000001), {Kind: 1, Text: "u"},
		set(""), set("v"), set(strings.Repeat("y", 40)), set(strings.Repeat("y", 41)), put(""), put("v"), put(strings.Repeat("y", 41)), {Kind: 3, N: 1},
		drop(), drop(at(0, 1, 1)), drop(at(0, 1, 2)), drop(at(0, 1, 1), at(0, 2, 1), at(1, 1, 1)), drop(at(0, 1, 2), at(0, 1, 1)), drop(at(0, 1, 0)), say(""), say("v"), {Kind: 5, N: 1},
	}
	for _, o := range ops {
		for _, d := range dots() {
			for _, time := range times() {
				o.Path = []string{"a", "b"}
				l = append(l, api.Event{Dot: d, Time: time, Op: o})
			}
		}
		o.Path = []string{"-"}
		l = append(l, api.Event{Dot: at(0, 1, 1), Time: 1, Op: o})
	}
	return l
}

// P5.2: the document's examples.
func TestExamples(t *testing.T) {
	d := at(0, 1, 1)
	if l := behind(t, api.Counter, did(1, 1, add(5)), did(2, 2, add(-2))); !Same(l, api.Leaf{Type: api.Counter, N: 3}) {
		t.Error(l)
	}
	want := api.Leaf{Type: api.Set, Tombs: dotsIn(d)}
	if l := behind(t, api.Set, did(1, 1, put("u")), did(2, 2, drop(d))); !Same(l, want) {
		t.Error(l)
	}
	if l := behind(t, api.Set, did(2, 2, drop(d)), did(1, 1, put("u"))); !Same(l, want) {
		t.Error(l)
	}
}

// P5.2: a counter is raised modulo 2^64, and again by an event that comes again.
func TestAdd(t *testing.T) {
	for _, x := range []struct{ n, by, want int64 }{
		{0, 0, 0}, {0, 1000000, 1000000}, {0, -1000000, -1000000}, {-5, 5, 0},
		{math.MaxInt64, 1, math.MinInt64}, {math.MinInt64, -1, math.MaxInt64}, {math.MaxInt64, 1000000, math.MinInt64 + 999999}, {math.MinInt64, -1000000, math.MaxInt64 - 999999},
	} {
		l, e := Apply(api.Leaf{Type: api.Counter, N: x.n}, did(1, 1, add(x.by)))
		if e != api.OK || !Same(l, api.Leaf{Type: api.Counter, N: x.want}) {
			t.Errorf("%d and %d = %v, %d", x.n, x.by, l, e)
		}
	}
	if l := behind(t, api.Counter, did(1, 1, add(5)), did(1, 1, add(5))); l.N != 10 {
		t.Error("twice:", l)
	}
}

// P5.2: a register is the event's, if that is behind it by (Time, Dot), or if it has none yet.
func TestSet(t *testing.T) {
	base := api.Leaf{Type: api.Register, Time: 5, Dot: at(1, 2, 3), Text: "u"}
	for _, x := range []struct {
		time uint64
		d    api.Dot
		want bool
	}{
		{4, at(15, 4, 1<<20), false},
		{6, at(0, 1, 1), true},
		{5, at(1, 2, 3), false},
		{5, at(1, 2, 4), true},
		{5, at(1, 2, 2), false},
		{5, at(1, 3, 1), true},
		{5, at(1, 1, 9), false},
		{5, at(2, 1, 1), true},
		{5, at(0, 4, 9), false},
	} {
		want := base
		if x.want {
			want = api.Leaf{Type: api.Register, Time: x.time, Dot: x.d, Text: "v"}
		}
		e := api.Event{Dot: x.d, Time: x.time, Op: api.Op{Kind: api.OpSet, Path: []string{"a"}, Text: "v"}}
		if l, f := Apply(base, e); f != api.OK || !Same(l, want) {
			t.Errorf("behind %v: %v, %d", e, l, f)
		}
	}
	if l := behind(t, api.Register, did(1, 1, set(""))); !Same(l, api.Leaf{Type: api.Register, Time: 1, Dot: at(0, 1, 1)}) {
		t.Error("none yet:", l)
	}
	if l := behind(t, api.Register, did(2, 1<<40, set("u")), did(1, 1<<40, set("v"))); l.Text != "u" || l.Dot != at(0, 1, 2) {
		t.Error("the greatest time:", l)
	}
}

// P5.2: an item of a set comes in its place, if its dot is neither an item's nor in Tombs.
func TestPut(t *testing.T) {
	base := api.Leaf{Type: api.Set, Items: items(api.Item{Dot: at(0, 1, 2), Text: "u"}, api.Item{Dot: at(0, 1, 6), Text: "u"}), Tombs: dotsIn(at(0, 1, 4))}
	for n, place := range map[uint64]int{1: 0, 3: 1, 5: 1, 7: 2} {
		want := api.Leaf{Type: api.Set, Items: slices.Insert(slices.Clone(base.Items), place, api.Item{Dot: at(0, 1, n), Text: "v"}), Tombs: base.Tombs}
		if l, e := Apply(base, did(n, 9, put("v"))); e != api.OK || !Same(l, want) {
			t.Errorf("put of %d: %v, %d", n, l, e)
		}
	}
	for _, n := range []uint64{2, 4, 6} {
		if l, e := Apply(base, did(n, 9, put("v"))); e != api.OK || !Same(l, base) {
			t.Errorf("put of %d: %v, %d", n, l, e)
		}
	}
}

// P5.2: an OpDrop's Dots are Tombs, items of them are gone, of whatever text; no other is.
func TestDrop(t *testing.T) {
	u, v, w := api.Item{Dot: at(0, 1, 1), Text: "u"}, api.Item{Dot: at(0, 1, 3), Text: "v"}, api.Item{Dot: at(1, 1, 1), Text: "u"}
	base := api.Leaf{Type: api.Set, Items: items(u, v, w), Tombs: dotsIn(at(0, 1, 2), at(0, 2, 2))}
	for i, x := range []struct {
		dots  []api.Dot
		items []api.Item
		tombs []api.Dot
	}{
		{nil, items(u, v, w), base.Tombs},
		{dotsIn(u.Dot), items(v, w), dotsIn(u.Dot, at(0, 1, 2), at(0, 2, 2))},
		{dotsIn(v.Dot), items(u, w), dotsIn(at(0, 1, 2), v.Dot, at(0, 2, 2))},
		{dotsIn(u.Dot, v.Dot, w.Dot), nil, dotsIn(u.Dot, at(0, 1, 2), v.Dot, at(0, 2, 2), w.Dot)},
		{dotsIn(at(0, 1, 2)), items(u, v, w), base.Tombs},
		{dotsIn(at(0, 1, 2), at(0, 2, 2), w.Dot), items(u, v), dotsIn(at(0, 1, 2), at(0, 2, 2), w.Dot)},
		{dotsIn(at(0, 1, 7), at(15, 4, 1<<20)), items(u, v, w), dotsIn(at(0, 1, 2), at(0, 1, 7), at(0, 2, 2), at(15, 4, 1<<20))},
		// Its own dot, too.
		{dotsIn(at(0, 1, 9)), items(u, v, w), dotsIn(at(0, 1, 2), at(0, 1, 9), at(0, 2, 2))},
	} {
		want := api.Leaf{Type: api.Set, Items: x.items, Tombs: x.tombs}
		if l, e := Apply(base, did(9, 9, drop(x.dots...))); e != api.OK || !Same(l, want) {
			t.Errorf("%d: %v, %d", i, l, e)
		}
	}
	if l, e := Apply(New(api.Set), did(9, 9, drop())); e != api.OK || !Same(l, New(api.Set)) {
		t.Error("of none:", l, e)
	}
}

// P5.2: an item of a log comes in its place by (Time, Dot), if no item has its dot, at whatever time.
func TestSay(t *testing.T) {
	base := api.Leaf{Type: api.Log, Items: items(api.Item{Time: 2, Dot: at(0, 1, 5), Text: "u"}, api.Item{Time: 4, Dot: at(0, 1, 3), Text: "u"})}
	for _, x := range []struct {
		n, time uint64
		place   int
	}{{9, 1, 0}, {4, 2, 0}, {6, 2, 1}, {1, 3, 1}, {2, 4, 1}, {4, 4, 2}, {1, 5, 2}, {1, 1 << 40, 2}} {
		want := api.Leaf{Type: api.Log, Items: slices.Insert(slices.Clone(base.Items), x.place, api.Item{Time: x.time, Dot: at(0, 1, x.n), Text: "v"})}
		if l, e := Apply(base, did(x.n, x.time, say("v"))); e != api.OK || !Same(l, want) {
			t.Errorf("say of %d at %d: %v, %d", x.n, x.time, l, e)
		}
	}
	for _, n := range []uint64{3, 5} {
		for time := uint64(1); time < 7; time++ {
			if l, e := Apply(base, did(n, time, say("v"))); e != api.OK || !Same(l, base) {
				t.Errorf("say of %d at %d: %v, %d", n, time, l, e)
			}
		}
	}
}

// P5.2, P1: ErrArg of a leaf or an event that may not be, ahead of ErrKind of another type; the zero leaf beside both.
func TestErrors(t *testing.T) {
	good := map[uint8]api.Op{1: add(5), 2: set("u"), 3: put("u"), 4: drop(at(0, 1, 1)), 5: say("u")}
	for kind := range 256 {
		for k, o := range good {
			want := api.ErrKind
			switch {
			case kind < 1 || kind > 4:
				want = api.ErrArg
			case goesWith(k, uint8(kind)):
				want = api.OK
			}
			l, e := Apply(api.Leaf{Type: uint8(kind)}, did(1, 1, o))
			if e != want || e != api.OK && !isZero(l) {
				t.Errorf("a leaf of type %d, an operation of kind %d: %v, %d", kind, k, l, e)
			}
		}
	}
	bad := did(1, 1, add(5))
	bad.Dot.Seq = 0
	for i, x := range []struct {
		l    api.Leaf
		e    api.Event
		want api.Errno
	}{
		{api.Leaf{}, api.Event{}, api.ErrArg},
		{api.Leaf{Type: api.Counter, Time: 1}, did(1, 1, say("u")), api.ErrArg},
		{api.Leaf{Type: api.Counter, Time: 1}, did(1, 1, add(5)), api.ErrArg},
		{New(api.Log), bad, api.ErrArg},
		{New(api.Counter), bad, api.ErrArg},
		{New(api.Counter), did(1, 0, add(5)), api.ErrArg},
		{New(api.Counter), did(1, 1<<40+1, add(5)), api.ErrArg},
		{New(api.Counter), did(1, 1, add(1000001)), api.ErrArg},
		{New(api.Counter), api.Event{Dot: at(0, 1, 1), Time: 1, Op: add(5)}, api.ErrArg},
		{New(api.Counter), did(1, 1, put("u")), api.ErrKind},
	} {
		if l, e := Apply(x.l, x.e); e != x.want || !isZero(l) {
			t.Errorf("%d: %v, %d", i, l, e)
		}
	}
}

// P5.2: as the document's words say it, of leaves and events of all shapes; what is told may be a leaf.
func TestApplyAll(t *testing.T) {
	count := map[api.Errno]int{}
	all := events()
	for n, l := range leaves() {
		// Each leaf that may be meets all events, the others some of them.
		step := 1
		if !plainMay(l) || n%3 != 0 {
			step = 31
		}
		for i := n % step; i < len(all); i += step {
			want, e := plainApply(l, all[i])
			got, f := Apply(l, all[i])
			count[e]++
			if f != e || !Same(got, want) || e == api.OK && !May(got) || e != api.OK && !isZero(got) {
				t.Fatalf("Apply(%v, %v) = %v, %d, want %v, %d", l, all[i], got, f, want, e)
			}
		}
	}
	if count[api.OK] < 1000 || count[api.ErrArg] < 1000 || count[api.ErrKind] < 1000 || len(count) != 3 {
		t.Error("errors:", count)
	}
}

// unlike tells events of unlike dots on a leaf of a type, in some order.
func unlike(r *rand.Rand, kind uint8) []api.Event {
	var l []api.Event
	var some []api.Dot
	for _, n := range r.Perm(24) {
		some = append(some, at(uint8(n%3), uint32(n/3%2+1), uint64(n/6+1)))
	}
	for i, d := range some[:12] {
		o := map[uint8]api.Op{1: add(int64(i) - 5), 2: set(string(rune('a' + i))), 3: put(string(rune('a' + i%3))), 4: say(string(rune('a' + i)))}[kind]
		if kind == 3 && r.Intn(2) == 0 {
			dots := map[api.Dot]int{}
			for range r.Intn(4) {
				dots[some[r.Intn(len(some))]] = 1
			}
			o = drop(slices.SortedFunc(maps.Keys(dots), compare)...)
		}
		e := did(1, uint64(r.Intn(4)+1), o)
		e.Dot = d
		l = append(l, e)
	}
	return l
}

// P5.2, What follows: events of unlike dots in any order make one leaf; but for counters, none changes anything again.
func TestAnyOrder(t *testing.T) {
	r := rand.New(rand.NewSource(5))
	for kind := uint8(1); kind <= 4; kind++ {
		for range 200 {
			l := unlike(r, kind)
			want := behind(t, kind, l...)
			for range 5 {
				r.Shuffle(len(l), func(i, j int) { l[i], l[j] = l[j], l[i] })
				if got := behind(t, kind, l...); !Same(got, want) {
					t.Fatalf("%v: %v, not %v", l, got, want)
				}
			}
			again := append(slices.Clone(l), l[r.Intn(len(l))], l[r.Intn(len(l))])
			if got := behind(t, kind, again...); kind != 1 && !Same(got, want) {
				t.Fatalf("%v: %v, not %v", again, got, want)
			}
		}
	}
}

// clone tells the leaf in memory of its own.
func clone(l api.Leaf) api.Leaf {
	l.Items, l.Tombs = slices.Clone(l.Items), slices.Clone(l.Tombs)
	return l
}

// spoil changes all that a leaf's lists reach, behind their ends too.
func spoil(l api.Leaf) {
	for i := range l.Items[:cap(l.Items)] {
		l.Items[:cap(l.Items)][i] = api.Item{Time: 77, Text: "spoilt"}
	}
	for i := range l.Tombs[:cap(l.Tombs)] {
		l.Tombs[:cap(l.Tombs)][i] = at(77, 77, 77)
	}
}

// roomy tells the list with room behind it, which must stay as it is.
func roomy[T any](l []T, mark T) []T {
	all := append(slices.Clone(l), mark, mark, mark, mark)
	return all[:len(l)]
}

// Rules: what is handed in is not changed, neither in it nor in the room behind it; what is told has memory of its own.
func TestOwnMemory(t *testing.T) {
	mark, tomb := api.Item{Text: "mark"}, at(99, 99, 99)
	set := api.Leaf{Type: api.Set, Items: items(api.Item{Dot: at(0, 1, 1), Text: "u"}, api.Item{Dot: at(0, 1, 5), Text: "v"}), Tombs: dotsIn(at(0, 1, 3))}
	log := api.Leaf{Type: api.Log, Items: items(api.Item{Time: 3, Dot: at(0, 1, 1)}, api.Item{Time: 5, Dot: at(0, 1, 5)})}
	for i, x := range []struct {
		l api.Leaf
		o api.Op
		n uint64
	}{
		{set, put("w"), 2}, {set, put("w"), 6}, {set, put("w"), 1}, {set, put("w"), 3},
		{set, drop(), 9}, {set, drop(at(0, 1, 1)), 9}, {set, drop(at(0, 1, 3)), 9}, {set, drop(at(0, 1, 1), at(0, 1, 3), at(0, 1, 9)), 9},
		{New(api.Set), drop(at(0, 1, 1), at(0, 1, 3)), 9},
		{log, say("w"), 2}, {log, say("w"), 5},
	} {
		l, e := clone(x.l), did(x.n, 4, x.o)
		l.Items, l.Tombs = roomy(l.Items, mark), roomy(l.Tombs, tomb)
		e.Op.Dots = roomy(e.Op.Dots, tomb)
		got, f := Apply(l, e)
		want, g := plainApply(x.l, did(x.n, 4, x.o))
		if f != g || !Same(got, want) {
			t.Fatalf("%d: %v, %d", i, got, f)
		}
		spoil(got)
		if !Same(l, x.l) || !slices.Equal(e.Op.Dots, x.o.Dots) || !slices.Equal(e.Op.Path, []string{"a"}) {
			t.Errorf("%d: changed: %v, %v", i, l, e)
		}
		for j := range 4 {
			if l.Items[:len(l.Items)+4][len(l.Items)+j] != mark || l.Tombs[:len(l.Tombs)+4][len(l.Tombs)+j] != tomb || e.Op.Dots[:len(e.Op.Dots)+4][len(e.Op.Dots)+j] != tomb {
				t.Errorf("%d: changed behind its end", i)
			}
		}
	}
}

// Rules: what is refused or asked changes nothing.
func TestNotChanged(t *testing.T) {
	all := events()
	for n, l := range leaves() {
		before, e := clone(l), all[n%len(all)]
		dots := slices.Clone(e.Op.Dots)
		May(l)
		Same(l, l)
		Apply(l, e)
		if !Same(l, before) || !slices.Equal(e.Op.Dots, dots) {
			t.Fatal("changed:", l, e)
		}
	}
}

// P1: a great leaf's calls end soon, too.
func TestGreat(t *testing.T) {
	log, set := New(api.Log), New(api.Set)
	for i := range uint64(200000) {
		log.Items = append(log.Items, api.Item{Time: i + 1, Dot: at(uint8(i%16), uint32(i/16%4+1), 200000-i)})
		set.Items = append(set.Items, api.Item{Dot: at(1, 1, i+1)})
		set.Tombs = append(set.Tombs, at(0, 1, i+1))
	}
	for i := range uint64(200000) {
		set.Tombs = append(set.Tombs, at(2, 1, i+1))
	}
	if !May(log) || !May(set) || !Same(log, log) || Same(log, set) {
		t.Error("great leaves")
	}
	if l, e := Apply(log, did(1<<20, 100, say("u"))); e != api.OK || len(l.Items) != 200001 || l.Items[99].Text != "u" {
		t.Error(len(l.Items), e)
	}
	if l, e := Apply(set, did(1<<20, 100, drop(at(1, 1, 1), at(1, 1, 200000)))); e != api.OK || len(l.Items) != 199998 || len(l.Tombs) != 400002 {
		t.Error(len(l.Items), e)
	}
	log.Items[199999].Dot = log.Items[0].Dot
	set.Tombs[200000] = set.Items[199999].Dot
	if May(log) || May(set) {
		t.Error("a dot twice")
	}
}

// maker makes leaves and events of bytes.
type maker struct{ b []byte }

// below takes a byte and tells a number below n.
func (m *maker) below(n int) int {
	if len(m.b) == 0 {
		return 0
	}
	x := m.b[0]
	m.b = m.b[1:]
	return int(x) % n
}

// dot tells a dot, mostly one of few that may be.
func (m *maker) dot() api.Dot {
	switch m.below(8) {
	case 0:
		return dots()[m.below(len(dots()))]
	case 1:
		return at(uint8(m.below(17)), uint32(m.below(6)), uint64(m.below(3)))
	}
	return at(uint8(m.below(2)), 1, uint64(m.below(5)+1))
}

func (m *maker) time() uint64 {
	if m.below(8) == 0 {
		return times()[m.below(len(times()))]
	}
	return uint64(m.below(6))
}

func (m *maker) leaf() api.Leaf {
	l := api.Leaf{Type: uint8(m.below(6))}
	if m.below(2) == 0 {
		l.N = int64(m.below(256)) << (m.below(9) * 7)
	}
	if m.below(3) == 0 {
		l.Time, l.Dot, l.Text = m.time(), m.dot(), texts()[m.below(len(texts()))]
	}
	for range m.below(6) {
		l.Items = append(l.Items, api.Item{Time: m.time() * uint64(l.Type/4), Dot: m.dot(), Text: texts()[m.below(3)]})
	}
	for range m.below(6) {
		l.Tombs = append(l.Tombs, m.dot())
	}
	return l
}

func (m *maker) event() api.Event {
	o := api.Op{Kind: uint8(m.below(7)), Path: []string{"a"}}
	switch o.Kind {
	case api.OpAdd:
		o.N = int64(m.below(256)) - 100
	case api.OpDrop:
		for range m.below(5) {
			o.Dots = append(o.Dots, m.dot())
		}
		fallthrough
	default:
		o.Text = texts()[m.below(len(texts()))]
	}
	return api.Event{Dot: m.dot(), Time: m.time(), Op: o}
}

// sorted tells the leaf and the event with their lists in order, none twice: most of them may be then.
func sorted(l api.Leaf, e api.Event) (api.Leaf, api.Event) {
	slices.SortFunc(l.Items, func(a, b api.Item) int { return compare(a.Dot, b.Dot) })
	l.Items = slices.CompactFunc(l.Items, func(a, b api.Item) bool { return a.Dot == b.Dot })
	slices.SortFunc(l.Items, compareItems)
	slices.SortFunc(l.Tombs, compare)
	l.Tombs = slices.Compact(l.Tombs)
	slices.SortFunc(e.Op.Dots, compare)
	e.Op.Dots = slices.Compact(e.Op.Dots)
	return l, e
}

// P5.1, P5.2, P1: May and Apply as the document's words say them, of leaves and events that bytes make.
func FuzzApply(f *testing.F) {
	r := rand.New(rand.NewSource(7))
	for range 3000 {
		b := make([]byte, r.Intn(120))
		r.Read(b)
		f.Add(b)
	}
	f.Fuzz(func(t *testing.T, b []byte) {
		m := &maker{b}
		tidy := m.below(4) > 0
		l, e := m.leaf(), m.event()
		if tidy {
			l, e = sorted(l, e)
		}
		for range 4 {
			if May(l) != plainMay(l) {
				t.Fatalf("May(%v) is %v", l, May(l))
			}
			before := clone(l)
			want, g := plainApply(l, e)
			got, h := Apply(l, e)
			if g != h || !Same(got, want) || !Same(l, before) || g != api.OK && !isZero(got) {
				t.Fatalf("Apply(%v, %v) = %v, %d, want %v, %d", l, e, got, h, want, g)
			}
			if g == api.OK {
				l = got
			}
			e = m.event()
		}
	})
}
