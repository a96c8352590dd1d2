package fuse

import (
	"maps"
	"math"
	"math/rand"
	"slices"
	"strings"
	"testing"

	"varve/api"
	"varve/leaf"
)

// at tells the dot of these numbers.
func at(rep uint8, inc uint32, seq uint64) api.Dot {
	return api.Dot{Actor: api.Actor{Rep: rep, Inc: inc}, Seq: seq}
}

// one tells the n-th dot of replica 0's first life.
func one(n uint64) api.Dot { return at(0, 1, n) }

func counter(n int64) api.Leaf { return api.Leaf{Type: api.Counter, N: n} }

func register(time uint64, d api.Dot, text string) api.Leaf {
	return api.Leaf{Type: api.Register, Time: time, Dot: d, Text: text}
}

func set(items []api.Item, tombs ...api.Dot) api.Leaf {
	return api.Leaf{Type: api.Set, Items: items, Tombs: tombs}
}

func log(items ...api.Item) api.Leaf { return api.Leaf{Type: api.Log, Items: items} }

func items(l ...api.Item) []api.Item { return l }

// in tells a set's item.
func in(d api.Dot, text string) api.Item { return api.Item{Dot: d, Text: text} }

// said tells a log's item.
func said(time uint64, d api.Dot, text string) api.Item {
	return api.Item{Time: time, Dot: d, Text: text}
}

// isZero tells whether a leaf is the zero one, without even empty lists.
func isZero(l api.Leaf) bool {
	return leaf.Same(l, api.Leaf{}) && l.Items == nil && l.Tombs == nil
}

// plainAhead is the document's words for an order by Time, then by Rep, Inc and Seq.
func plainAhead(a, b api.Item) bool {
	return slices.Compare([]uint64{a.Time, uint64(a.Dot.Rep), uint64(a.Dot.Inc), a.Dot.Seq}, []uint64{b.Time, uint64(b.Dot.Rep), uint64(b.Dot.Inc), b.Dot.Seq}) < 0
}

func plainItems(a, b api.Item) int {
	if plainAhead(a, b) {
		return -1
	} else if plainAhead(b, a) {
		return 1
	}
	return 0
}

func plainDots(a, b api.Dot) int { return plainItems(api.Item{Dot: a}, api.Item{Dot: b}) }

// plainMerge is the document's words for Merge, in sets of dots.
func plainMerge(l, a, b api.Leaf) (api.Leaf, api.Errno) {
	if !leaf.May(l) || !leaf.May(a) || !leaf.May(b) {
		return api.Leaf{}, api.ErrArg
	}
	if l.Type != a.Type || l.Type != b.Type || a.Type != b.Type {
		return api.Leaf{}, api.ErrKind
	}
	switch l.Type {
	case 1:
		return counter(int64(uint64(a.N) + uint64(b.N) - uint64(l.N))), api.OK
	case 2:
		if a.Time == 0 || b.Time != 0 && !plainAhead(said(b.Time, b.Dot, ""), said(a.Time, a.Dot, "")) {
			return register(b.Time, b.Dot, b.Text), api.OK
		}
		return register(a.Time, a.Dot, a.Text), api.OK
	}
	have, gone := map[api.Dot]api.Item{}, map[api.Dot]int{}
	for _, i := range b.Items {
		have[i.Dot] = i
	}
	for _, i := range a.Items {
		have[i.Dot] = i
	}
	for _, d := range slices.Concat(b.Tombs, a.Tombs) {
		gone[d] = 1
		delete(have, d)
	}
	return api.Leaf{Type: l.Type, Items: slices.SortedFunc(maps.Values(have), plainItems), Tombs: slices.SortedFunc(maps.Keys(gone), plainDots)}, api.OK
}

// plainPurge is the document's words for Purge.
func plainPurge(l api.Leaf) (api.Leaf, api.Errno) {
	if !leaf.May(l) {
		return api.Leaf{}, api.ErrArg
	}
	l.Tombs = nil
	return l, api.OK
}

// checkMerge fails where the merge is not the one that is wanted, or may not be.
func checkMerge(t *testing.T, l, a, b, want api.Leaf) {
	t.Helper()
	if got, e := Merge(l, a, b); e != api.OK || !leaf.Same(got, want) || !leaf.May(got) {
		t.Errorf("Merge(%v, %v, %v) = %v, %d, want %v", l, a, b, got, e, want)
	}
}

// P6.1: the document's examples.
func TestExamples(t *testing.T) {
	checkMerge(t, counter(5), counter(7), counter(4), counter(6))
	checkMerge(t, set(nil), set(items(in(one(1), "u"))), set(nil, one(1)), set(nil, one(1)))
}

// P6.1: N of both, less that of the base, modulo 2^64.
func TestCounters(t *testing.T) {
	for _, x := range [][4]int64{
		{0, 0, 0, 0}, {0, 3, 4, 7}, {5, 5, 5, 5}, {5, 5, 9, 9}, {9, 4, 9, 4}, {10, 7, 8, 5}, {-3, -1, -7, -5}, {1, 0, 0, -1},
		{0, math.MaxInt64, 1, math.MinInt64}, {0, math.MinInt64, -1, math.MaxInt64}, {math.MinInt64, 0, 0, math.MinInt64}, {1, math.MinInt64, 0, math.MaxInt64},
		{math.MaxInt64, math.MaxInt64, math.MaxInt64, math.MaxInt64}, {math.MinInt64, math.MinInt64, math.MinInt64, math.MinInt64}, {math.MaxInt64, math.MinInt64, math.MinInt64, -math.MaxInt64},
	} {
		checkMerge(t, counter(x[0]), counter(x[1]), counter(x[2]), counter(x[3]))
		checkMerge(t, counter(x[0]), counter(x[2]), counter(x[1]), counter(x[3]))
	}
}

// P6.1: the register that is behind by Time, then by Dot, whatever the base is; one that has none yet is ahead of all.
func TestRegisters(t *testing.T) {
	none := leaf.New(api.Register)
	rising := []api.Leaf{
		none, register(1, one(1), "z"), register(1, one(2), ""), register(1, one(1<<20), "y"), register(1, at(0, 2, 1), "x"), register(1, at(1, 1, 1), "w"), register(1, at(15, 4, 1<<20), "v"),
		register(2, one(1), strings.Repeat("y", 40)), register(1<<40, one(1), "u"), register(1<<40, at(15, 4, 1<<20), "a"),
	}
	for _, base := range []api.Leaf{none, rising[4], rising[9]} {
		for i, a := range rising {
			for j, b := range rising {
				checkMerge(t, base, a, b, rising[max(i, j)])
			}
		}
	}
}

// P6.1: of registers of one Time and Dot it is b.
func TestRegistersOfOneDot(t *testing.T) {
	u, v := register(3, one(1), "u"), register(3, one(1), "v")
	for _, base := range []api.Leaf{leaf.New(api.Register), u, v} {
		checkMerge(t, base, u, v, v)
		checkMerge(t, base, v, u, u)
	}
}

// P6.1: Tombs of both, each once, and the items of both that no tomb of any of both is of, in order; those of the base neither come nor go by it.
func TestSets(t *testing.T) {
	u, v, w, x := in(one(1), "u"), in(one(3), "u"), in(at(0, 2, 1), "w"), in(at(1, 1, 1), "x")
	for i, c := range []struct{ l, a, b, want api.Leaf }{
		{set(nil), set(nil), set(nil), set(nil)},
		{set(nil), set(items(v)), set(items(u)), set(items(u, v))},
		{set(nil), set(items(u, x)), set(items(v, w)), set(items(u, v, w, x))},
		{set(nil), set(items(u, v)), set(items(u, v)), set(items(u, v))},
		{set(nil), set(nil, u.Dot, x.Dot), set(nil, v.Dot, w.Dot, x.Dot), set(nil, u.Dot, v.Dot, w.Dot, x.Dot)},
		{set(nil), set(items(u, v), w.Dot), set(items(w, x), v.Dot), set(items(u, x), v.Dot, w.Dot)},
		{set(nil), set(items(u, v, w, x)), set(nil, u.Dot, v.Dot, w.Dot, x.Dot), set(nil, u.Dot, v.Dot, w.Dot, x.Dot)},
		{set(nil), set(items(u, v)), set(items(u), v.Dot), set(items(u), v.Dot)},
		{set(nil), set(items(u)), set(nil, one(2)), set(items(u), one(2))},
		{set(items(u)), set(nil), set(nil), set(nil)},
		{set(items(u)), set(items(u)), set(nil), set(items(u))},
		{set(nil, u.Dot), set(nil), set(nil), set(nil)},
		{set(nil, u.Dot), set(items(u)), set(items(u, v)), set(items(u, v))},
	} {
		checkMerge(t, c.l, c.a, c.b, c.want)
		checkMerge(t, c.l, c.b, c.a, c.want)
		if t.Failed() {
			t.Fatal(i)
		}
	}
}

// P6.1: of a dot that both have, sets have a's item.
func TestSetsOfOneDot(t *testing.T) {
	a, b := set(items(in(one(2), "u"), in(one(3), "x"))), set(items(in(one(1), "w"), in(one(2), "v")))
	checkMerge(t, b, a, b, set(items(in(one(1), "w"), in(one(2), "u"), in(one(3), "x"))))
	checkMerge(t, a, b, a, set(items(in(one(1), "w"), in(one(2), "v"), in(one(3), "x"))))
}

// P6.1: the items of both, in order by Time, then by Dot.
func TestLogs(t *testing.T) {
	early, late := said(1, at(15, 4, 1<<20), "z"), said(1<<40, one(1), "a")
	u, v, w := said(5, one(2), "u"), said(5, one(4), "v"), said(5, at(1, 1, 1), "w")
	for i, c := range []struct{ l, a, b, want api.Leaf }{
		{log(), log(), log(), log()},
		{log(), log(late), log(early), log(early, late)},
		{log(), log(v), log(u, w), log(u, v, w)},
		{log(), log(early, u, late), log(v, w), log(early, u, v, w, late)},
		{log(), log(early, u, v), log(early, v, late), log(early, u, v, late)},
		{log(u, v), log(w), log(), log(w)},
		{log(u), log(u, v), log(u, w), log(u, v, w)},
	} {
		checkMerge(t, c.l, c.a, c.b, c.want)
		checkMerge(t, c.l, c.b, c.a, c.want)
		if t.Failed() {
			t.Fatal(i)
		}
	}
}

// P6.1: of a dot that both have, logs have a's item, at its Time, and once.
func TestLogsOfOneDot(t *testing.T) {
	a, b := log(said(2, one(1), "u"), said(5, one(2), "x")), log(said(3, one(3), "w"), said(4, one(1), "v"))
	checkMerge(t, log(), a, b, log(said(2, one(1), "u"), said(3, one(3), "w"), said(5, one(2), "x")))
	checkMerge(t, b, b, a, log(said(3, one(3), "w"), said(4, one(1), "v"), said(5, one(2), "x")))
}

// P6.2: a leaf without its tombs; a leaf that has none stays as it is.
func TestPurge(t *testing.T) {
	u, v := in(one(1), "u"), in(at(1, 1, 1), "v")
	for i, x := range []struct{ l, want api.Leaf }{
		{set(items(u, v), one(2), at(0, 2, 1)), set(items(u, v))},
		{set(nil, one(1)), set(nil)},
		{set(items(u)), set(items(u))},
		{set(nil), set(nil)},
		{counter(math.MinInt64), counter(math.MinInt64)},
		{register(3, one(1), "u"), register(3, one(1), "u")},
		{leaf.New(api.Register), leaf.New(api.Register)},
		{log(said(1, one(2), "u"), said(2, one(1), "v")), log(said(1, one(2), "u"), said(2, one(1), "v"))},
		{log(), log()},
	} {
		if l, e := Purge(x.l); e != api.OK || !leaf.Same(l, x.want) {
			t.Errorf("%d: %v, %d", i, l, e)
		}
	}
}

// wrong tells leaves that may not be, of each type and of none.
func wrong() []api.Leaf {
	return []api.Leaf{
		{}, {N: 1}, {Type: 5}, {Type: 255},
		{Type: api.Counter, Time: 1}, {Type: api.Counter, Text: "u"}, {Type: api.Counter, Tombs: []api.Dot{one(1)}},
		{Type: api.Register, Time: 1}, register(0, one(1), ""), register(1<<40+1, one(1), ""), register(1, at(16, 1, 1), ""), register(1, one(1), strings.Repeat("y", 41)),
		set(items(in(one(2), ""), in(one(1), ""))), set(items(in(one(1), "")), one(1)), set(nil, one(1), one(1)), set(items(said(1, one(1), ""))), set(nil, one(0)),
		log(said(0, one(1), "")), log(said(1, one(1), ""), said(2, one(1), "")), log(said(2, one(1), ""), said(1, one(2), "")), {Type: api.Log, Tombs: []api.Dot{one(1)}},
	}
}

// right tells leaves that may be, some of each type.
func right() []api.Leaf {
	return []api.Leaf{
		counter(0), counter(-7), leaf.New(api.Register), register(3, one(1), "u"), set(nil), set(items(in(one(2), "v")), one(1)), log(), log(said(1, one(1), "u")),
	}
}

// P6.1, P6.2, P1: ErrArg of one leaf that may not be, whatever the others are; the zero leaf beside it.
func TestErrArg(t *testing.T) {
	for _, bad := range wrong() {
		for _, x := range slices.Concat(right(), wrong()) {
			for _, y := range slices.Concat(right(), wrong()) {
				for _, l := range [][3]api.Leaf{{bad, x, y}, {x, bad, y}, {x, y, bad}} {
					if m, e := Merge(l[0], l[1], l[2]); e != api.ErrArg || !isZero(m) {
						t.Fatalf("Merge(%v) = %v, %d", l, m, e)
					}
				}
			}
		}
		if l, e := Purge(bad); e != api.ErrArg || !isZero(l) {
			t.Errorf("Purge(%v) = %v, %d", bad, l, e)
		}
	}
}

// P6.1, P1: ErrKind of leaves of which one is of another type; the zero leaf beside it.
func TestErrKind(t *testing.T) {
	for _, l := range right() {
		for _, a := range right() {
			for _, b := range right() {
				want := api.ErrKind
				if l.Type == a.Type && l.Type == b.Type {
					want = api.OK
				}
				if m, e := Merge(l, a, b); e != want || e != api.OK && !isZero(m) {
					t.Errorf("Merge(%v, %v, %v) = %v, %d", l, a, b, m, e)
				}
			}
		}
	}
}

// done tells an event of a dot on a leaf of a type; a drop is of some of the dots.
func done(r *rand.Rand, kind uint8, d api.Dot, dots []api.Dot) api.Event {
	o := api.Op{Kind: []uint8{0, api.OpAdd, api.OpSet, api.OpPut, api.OpSay}[kind], Path: []string{"a"}, Text: string(rune('a' + r.Intn(26)))}
	if kind == api.Counter {
		o.N, o.Text = int64(r.Intn(2000001)-1000000), ""
	}
	if kind == api.Set && r.Intn(3) == 0 {
		some := map[api.Dot]int{}
		for range r.Intn(5) {
			some[dots[r.Intn(len(dots))]] = 1
		}
		o.Kind, o.Dots = api.OpDrop, slices.SortedFunc(maps.Keys(some), plainDots)
	}
	return api.Event{Dot: d, Time: uint64(r.Intn(5) + 1), Op: o}
}

// behind tells the leaf behind one and some events.
func behind(t *testing.T, l api.Leaf, events []api.Event) api.Leaf {
	t.Helper()
	for _, e := range events {
		var f api.Errno
		if l, f = leaf.Apply(l, e); f != api.OK {
			t.Fatal(l, e, f)
		}
	}
	return l
}

// What follows: of leaves behind some events and unlike others the merge is the leaf behind all, in both orders.
func TestMergeIsAllEvents(t *testing.T) {
	r := rand.New(rand.NewSource(11))
	for range 4000 {
		kind := uint8(r.Intn(4) + 1)
		var dots []api.Dot
		for _, n := range r.Perm(24) {
			dots = append(dots, at(uint8(n%3), uint32(n/3%2+1), uint64(n/6+1)))
		}
		var events []api.Event
		for _, d := range dots[:r.Intn(20)] {
			events = append(events, done(r, kind, d, dots))
		}
		first := r.Intn(len(events) + 1)
		second := first + r.Intn(len(events)-first+1)
		l := behind(t, leaf.New(kind), events[:first])
		a, b := behind(t, l, events[first:second]), behind(t, l, events[second:])
		want := behind(t, a, events[second:])
		checkMerge(t, l, a, b, want)
		checkMerge(t, l, b, a, want)
		checkMerge(t, l, a, l, a)
		checkMerge(t, l, l, b, b)
		checkMerge(t, l, l, l, l)
		if t.Failed() {
			return
		}
	}
}

// roomy tells the list with room behind it, which must stay as it is.
func roomy[T any](l []T, mark T) []T {
	all := append(slices.Clone(l), mark, mark, mark)
	return all[:len(l)]
}

// handed tells a copy of a leaf whose lists, even empty ones, have room behind them.
func handed(l api.Leaf) api.Leaf {
	l.Items, l.Tombs = roomy(l.Items, api.Item{Text: "mark"}), roomy(l.Tombs, one(99))
	return l
}

// whole tells whether a leaf that was handed in is as it was, the room behind its lists too.
func whole(l, was api.Leaf) bool {
	for _, x := range l.Items[len(l.Items) : len(l.Items)+3] {
		if x != (api.Item{Text: "mark"}) {
			return false
		}
	}
	for _, d := range l.Tombs[len(l.Tombs) : len(l.Tombs)+3] {
		if d != one(99) {
			return false
		}
	}
	return leaf.Same(l, was)
}

// spoil overwrites all the memory of a leaf's lists.
func spoil(l api.Leaf) {
	for i := range l.Items[:cap(l.Items)] {
		l.Items[:cap(l.Items)][i] = api.Item{Time: 77, Text: "spoilt"}
	}
	for i := range l.Tombs[:cap(l.Tombs)] {
		l.Tombs[:cap(l.Tombs)][i] = at(77, 77, 77)
	}
}

// Rules: what is handed in is not changed, neither in it nor in the room behind it; what is told has memory of its own.
func TestOwnMemory(t *testing.T) {
	more := []api.Leaf{
		set(items(in(one(1), "u"), in(one(3), "v")), one(2)), set(items(in(one(1), "w"), in(one(2), "v")), one(3), one(5)),
		log(said(1, one(2), "u"), said(2, one(1), "v")), log(said(1, one(3), "u"), said(3, one(1), "v")),
	}
	all := slices.Concat(right(), more)
	for _, a := range all {
		for _, b := range all {
			for _, l := range all {
				hl, ha, hb := handed(l), handed(a), handed(b)
				m, _ := Merge(hl, ha, hb)
				spoil(m)
				same, _ := Merge(hl, hl, hl)
				spoil(same)
				if !whole(hl, l) || !whole(ha, a) || !whole(hb, b) {
					t.Fatalf("Merge changed %v, %v, %v", l, a, b)
				}
			}
		}
		h := handed(a)
		p, _ := Purge(h)
		spoil(p)
		if !whole(h, a) {
			t.Fatalf("Purge changed %v", a)
		}
	}
	for _, l := range wrong() {
		h := handed(l)
		Merge(h, h, h)
		Purge(h)
		if !whole(h, l) {
			t.Fatal("changed:", l)
		}
	}
}

// P1: great leaves' calls end soon, too.
func TestGreat(t *testing.T) {
	const n = 100000
	a, b, x, y := set(nil), set(nil), log(), log()
	for i := range uint64(n) {
		a.Items, a.Tombs = append(a.Items, in(at(0, 1, i+1), "")), append(a.Tombs, at(1, 1, i+1))
		b.Items, b.Tombs = append(b.Items, in(at(1, 1, i+2), "")), append(b.Tombs, at(2, 1, i+1))
		x.Items, y.Items = append(x.Items, said(i+1, at(0, 1, n-i), "x")), append(y.Items, said(i+2, at(0, 1, n-i+1), "y"))
	}
	if m, e := Merge(leaf.New(api.Set), a, b); e != api.OK || len(m.Items) != n+1 || len(m.Tombs) != 2*n || !leaf.May(m) {
		t.Error(len(m.Items), len(m.Tombs), e)
	}
	if m, e := Merge(leaf.New(api.Log), x, y); e != api.OK || len(m.Items) != n+1 || !leaf.May(m) {
		t.Error(len(m.Items), e)
	}
	if m, e := Purge(a); e != api.OK || len(m.Items) != n || len(m.Tombs) != 0 {
		t.Error(len(m.Items), len(m.Tombs), e)
	}
}

// maker makes leaves of bytes.
type maker struct{ b []byte }

// below takes a byte and tells a number below n.
func (m *maker) below(n int) int {
	if len(m.b) == 0 {
		return 0
	}
	x := m.b[0]
	m.b = m.b[1:]
	return int(x) % n
}

// dot tells a dot, mostly one of few that may be.
func (m *maker) dot() api.Dot {
	if m.below(40) == 39 {
		return at(uint8(m.below(256)), uint32(m.below(7)), uint64(m.below(256))<<13)
	}
	return at(uint8(m.below(2)), uint32(m.below(2)+1), uint64(m.below(3)+1))
}

func (m *maker) text() string { return strings.Repeat("y", m.below(43)*m.below(2)) + "u"[:m.below(2)] }

// leaf tells a leaf of a type; its lists in order, if it is to be tidy: most such may be.
func (m *maker) leaf(kind uint8, tidy bool) api.Leaf {
	l := api.Leaf{Type: kind}
	if kind == api.Counter || m.below(30) == 29 {
		l.N = int64(m.below(256)) << (m.below(9) * 7)
	}
	if kind == api.Register && m.below(5) > 0 || m.below(30) == 29 {
		l.Time, l.Dot, l.Text = uint64(m.below(4)+1), m.dot(), m.text()
	}
	if kind == api.Set || kind == api.Log {
		for range m.below(7) {
			l.Items = append(l.Items, api.Item{Time: uint64(m.below(4)+1) * uint64(kind/4), Dot: m.dot(), Text: m.text()})
		}
	}
	if kind == api.Set || m.below(30) == 29 {
		for range m.below(6) {
			l.Tombs = append(l.Tombs, m.dot())
		}
	}
	if tidy {
		slices.SortFunc(l.Items, func(a, b api.Item) int { return plainDots(a.Dot, b.Dot) })
		l.Items = slices.CompactFunc(l.Items, func(a, b api.Item) bool { return a.Dot == b.Dot })
		l.Items = slices.DeleteFunc(l.Items, func(i api.Item) bool { return slices.Contains(l.Tombs, i.Dot) })
		slices.SortFunc(l.Items, plainItems)
		slices.SortFunc(l.Tombs, plainDots)
		l.Tombs = slices.Compact(l.Tombs)
	}
	return l
}

// P6.1, P6.2, P1: Merge and Purge as the document's words say them, of leaves that bytes make.
func FuzzMerge(f *testing.F) {
	r := rand.New(rand.NewSource(7))
	for range 6000 {
		b := make([]byte, r.Intn(400))
		r.Read(b)
		f.Add(b)
	}
	f.Fuzz(func(t *testing.T, b []byte) {
		m := &maker{b}
		tidy := m.below(8) > 0
		kinds := [3]uint8{uint8(m.below(4) + 1)}
		kinds[1], kinds[2] = kinds[0], kinds[0]
		if m.below(20) == 19 {
			kinds[m.below(3)] = uint8(m.below(6))
		}
		l, x, y := m.leaf(kinds[0], tidy), m.leaf(kinds[1], tidy), m.leaf(kinds[2], tidy)
		hl, hx, hy := handed(l), handed(x), handed(y)
		want, g := plainMerge(l, x, y)
		got, h := Merge(hl, hx, hy)
		if g != h || !leaf.Same(got, want) || g == api.OK && !leaf.May(got) || g != api.OK && !isZero(got) {
			t.Fatalf("Merge(%v, %v, %v) = %v, %d, want %v, %d", l, x, y, got, h, want, g)
		}
		want, g = plainPurge(x)
		got, h = Purge(hx)
		if g != h || !leaf.Same(got, want) || g != api.OK && !isZero(got) {
			t.Fatalf("Purge(%v) = %v, %d, want %v, %d", x, got, h, want, g)
		}
		if !whole(hl, l) || !whole(hx, x) || !whole(hy, y) {
			t.Fatalf("changed: %v, %v, %v", l, x, y)
		}
	})
}
