package leaf

import (
	"math"
	"slices"
	"strings"
	"testing"

	"varve/api"
)

// at tells the dot of these numbers.
func at(rep uint8, inc uint32, seq uint64) api.Dot {
	return api.Dot{Actor: api.Actor{Rep: rep, Inc: inc}, Seq: seq}
}

// plainDot is the document's words for a dot that may be.
func plainDot(d api.Dot) bool {
	return d.Rep <= 15 && d.Inc >= 1 && d.Inc <= 4 && d.Seq >= 1 && d.Seq <= 1<<20
}

// plainAhead is the document's words for an order by Time, then by Rep, Inc and Seq.
func plainAhead(time uint64, d api.Dot, other uint64, o api.Dot) bool {
	return slices.Compare([]uint64{time, uint64(d.Rep), uint64(d.Inc), d.Seq}, []uint64{other, uint64(o.Rep), uint64(o.Inc), o.Seq}) < 0
}

// plainTwice tells whether two of the dots are the same.
func plainTwice(l []api.Dot) bool {
	seen := map[api.Dot]int{}
	for _, d := range l {
		seen[d]++
	}
	return len(seen) < len(l)
}

// dotsOf tells the items' dots.
func dotsOf(l []api.Item) []api.Dot {
	var dots []api.Dot
	for _, i := range l {
		dots = append(dots, i.Dot)
	}
	return dots
}

// plainMayItems is the document's words for items.
func plainMayItems(l []api.Item, least, most uint64) bool {
	for n, i := range l {
		if i.Time < least || i.Time > most || !plainDot(i.Dot) || len(i.Text) > 40 {
			return false
		}
		for _, ahead := range l[:n] {
			if !plainAhead(ahead.Time, ahead.Dot, i.Time, i.Dot) {
				return false
			}
		}
	}
	return !plainTwice(dotsOf(l))
}

// plainMayTombs is the document's words for a set's Tombs beside its items.
func plainMayTombs(l []api.Dot, items []api.Item) bool {
	for n, d := range l {
		if !plainDot(d) || n > 0 && !plainAhead(0, l[n-1], 0, d) {
			return false
		}
	}
	return !plainTwice(slices.Concat(l, dotsOf(items)))
}

// plainMay is the document's table of leaves that may be.
func plainMay(l api.Leaf) bool {
	number, one := l.N == 0, l.Time == 0 && l.Dot == (api.Dot{}) && l.Text == ""
	items, tombs := len(l.Items) == 0, len(l.Tombs) == 0
	switch l.Type {
	case 1:
		return one && items && tombs
	case 2:
		return number && items && tombs && (one || l.Time >= 1 && l.Time <= 1<<40 && plainDot(l.Dot) && len(l.Text) <= 40)
	case 3:
		return number && one && plainMayItems(l.Items, 0, 0) && plainMayTombs(l.Tombs, l.Items)
	case 4:
		return number && one && tombs && plainMayItems(l.Items, 1, 1<<40)
	}
	return false
}

// dots tells dots that may be, and others, rising or not.
func dots() []api.Dot {
	return []api.Dot{
		{}, at(0, 1, 1), at(0, 1, 2), at(0, 2, 1), at(1, 1, 1), at(15, 4, 1<<20), at(0, 1, 1<<20),
		at(16, 1, 1), at(255, 1, 1), at(0, 0, 1), at(0, 5, 1), at(0, math.MaxUint32, 1), at(0, 1, 0), at(0, 1, 1<<20+1), at(0, 1, math.MaxUint64),
	}
}

// times tells times that may be, and others.
func times() []uint64 {
	return []uint64{0, 1, 2, 1 << 40, 1<<40 + 1, math.MaxUint64}
}

// texts tells texts that may be, and others.
func texts() []string {
	return []string{"", "u", "\x00\xFF\n", strings.Repeat("y", 40), strings.Repeat("\xC3\xA9", 20), strings.Repeat("y", 41), strings.Repeat("\xC3\xA9", 21)}
}

// lists tells lists of items that may be a set's, a log's or none's.
func lists() [][]api.Item {
	var all [][]api.Item
	one := func(l ...api.Item) { all = append(all, l) }
	for _, time := range times() {
		for _, d := range dots() {
			for _, s := range texts() {
				one(api.Item{Time: time, Dot: d, Text: s})
			}
			one(api.Item{Time: time, Dot: at(0, 1, 2)}, api.Item{Time: time, Dot: d})
			one(api.Item{Time: time, Dot: d}, api.Item{Time: time, Dot: at(0, 2, 1)})
			for _, other := range times() {
				one(api.Item{Time: time, Dot: d}, api.Item{Time: other, Dot: at(0, 1, 1)})
				one(api.Item{Time: time, Dot: d}, api.Item{Time: 2, Dot: at(0, 2, 2)}, api.Item{Time: other, Dot: at(0, 1, 2)})
			}
		}
	}
	one()
	all = append(all, []api.Item{})
	return all
}

// tombs tells lists of dots that may be Tombs, and others.
func tombs() [][]api.Dot {
	all := [][]api.Dot{nil, {}, {at(0, 1, 1), at(0, 1, 2), at(0, 2, 1)}, {at(0, 1, 1), at(0, 1, 3), at(0, 1, 2)}, {at(0, 1, 1), at(0, 1, 2), at(0, 1, 2)}}
	for _, d := range dots() {
		all = append(all, []api.Dot{d}, []api.Dot{d, at(0, 1, 2)}, []api.Dot{at(0, 1, 2), d})
	}
	return all
}

// leaves tells leaves of all shapes that the document speaks of, and of none.
func leaves() []api.Leaf {
	var l []api.Leaf
	for _, kind := range []uint8{0, 1, 2, 3, 4, 5, 255} {
		for _, n := range []int64{0, 1, -1, math.MaxInt64, math.MinInt64} {
			l = append(l, api.Leaf{Type: kind, N: n})
		}
		for _, time := range times() {
			for _, d := range dots() {
				for _, s := range texts() {
					l = append(l, api.Leaf{Type: kind, Time: time, Dot: d, Text: s})
				}
			}
		}
		for _, items := range lists() {
			l = append(l, api.Leaf{Type: kind, Items: items}, api.Leaf{Type: kind, Items: items, Tombs: []api.Dot{at(0, 1, 2), at(3, 3, 3)}})
		}
		for _, d := range tombs() {
			l = append(l, api.Leaf{Type: kind, Tombs: d}, api.Leaf{Type: kind, Items: []api.Item{{Dot: at(0, 1, 1)}, {Dot: at(1, 1, 1)}}, Tombs: d})
		}
		item, tomb := []api.Item{{Dot: at(0, 1, 1)}}, []api.Dot{at(0, 1, 2)}
		for _, x := range []api.Leaf{{N: 1}, {Time: 1}, {Dot: at(0, 1, 3)}, {Text: "u"}, {Time: 1, Dot: at(0, 1, 3)}} {
			x.Type = kind
			l = append(l, x)
			x.Items = item
			l = append(l, x)
			x.Tombs = tomb
			l = append(l, x)
			x.Items = nil
			l = append(l, x)
			x.N = -1
			l = append(l, x)
		}
	}
	return l
}

// P5.1: of each type the leaf to which nothing was applied; of what is no type the zero leaf.
func TestNew(t *testing.T) {
	for kind := range 256 {
		l, is := New(uint8(kind)), kind >= 1 && kind <= 4
		want := api.Leaf{}
		if is {
			want.Type = uint8(kind)
		}
		if l.Items != nil || l.Tombs != nil || !Same(l, want) || May(l) != is {
			t.Errorf("New(%d) = %v", kind, l)
		}
	}
}

// P5.1: the table, type by type, at its edges.
func TestMay(t *testing.T) {
	d, e, long := at(0, 1, 1), at(0, 1, 2), strings.Repeat("y", 40)
	for i, x := range []struct {
		l    api.Leaf
		want bool
	}{
		{api.Leaf{}, false},
		{api.Leaf{Type: 5}, false},
		{api.Leaf{Type: 255}, false},
		{api.Leaf{N: 5}, false},
		{api.Leaf{Type: api.Counter}, true},
		{api.Leaf{Type: api.Counter, N: math.MinInt64, Items: []api.Item{}, Tombs: []api.Dot{}}, true},
		{api.Leaf{Type: api.Counter, N: math.MaxInt64}, true},
		{api.Leaf{Type: api.Counter, Time: 1}, false},
		{api.Leaf{Type: api.Counter, Dot: d}, false},
		{api.Leaf{Type: api.Counter, Dot: at(0, 0, 1)}, false},
		{api.Leaf{Type: api.Counter, Text: "u"}, false},
		{api.Leaf{Type: api.Counter, Items: []api.Item{{}}}, false},
		{api.Leaf{Type: api.Counter, Tombs: []api.Dot{d}}, false},
		{api.Leaf{Type: api.Register}, true},
		{api.Leaf{Type: api.Register, Time: 1, Dot: d}, true},
		{api.Leaf{Type: api.Register, Time: 1 << 40, Dot: at(15, 4, 1<<20), Text: long}, true},
		{api.Leaf{Type: api.Register, Time: 1<<40 + 1, Dot: d}, false},
		{api.Leaf{Type: api.Register, Time: 1, Dot: d, Text: long + "y"}, false},
		{api.Leaf{Type: api.Register, Time: 1}, false},
		{api.Leaf{Type: api.Register, Time: 1, Dot: at(16, 1, 1)}, false},
		{api.Leaf{Type: api.Register, Dot: d}, false},
		{api.Leaf{Type: api.Register, Text: "u"}, false},
		{api.Leaf{Type: api.Register, Dot: d, Text: "u"}, false},
		{api.Leaf{Type: api.Register, N: 1, Time: 1, Dot: d}, false},
		{api.Leaf{Type: api.Register, Time: 1, Dot: d, Items: []api.Item{{Time: 1, Dot: d}}}, false},
		{api.Leaf{Type: api.Register, Time: 1, Dot: d, Tombs: []api.Dot{d}}, false},
		{api.Leaf{Type: api.Set}, true},
		{api.Leaf{Type: api.Set, Items: []api.Item{{Dot: d, Text: long}, {Dot: e, Text: long}}}, true},
		{api.Leaf{Type: api.Set, Items: []api.Item{{Dot: d, Text: long + "y"}}}, false},
		{api.Leaf{Type: api.Set, Items: []api.Item{{Dot: e}, {Dot: d}}}, false},
		{api.Leaf{Type: api.Set, Items: []api.Item{{Dot: d}, {Dot: d}}}, false},
		{api.Leaf{Type: api.Set, Items: []api.Item{{Dot: d, Time: 1}}}, false},
		{api.Leaf{Type: api.Set, Items: []api.Item{{Dot: at(0, 5, 1)}}}, false},
		{api.Leaf{Type: api.Set, Tombs: []api.Dot{d, e}}, true},
		{api.Leaf{Type: api.Set, Items: []api.Item{{Dot: e}}, Tombs: []api.Dot{d, at(1, 1, 1)}}, true},
		{api.Leaf{Type: api.Set, Tombs: []api.Dot{e, d}}, false},
		{api.Leaf{Type: api.Set, Tombs: []api.Dot{d, d}}, false},
		{api.Leaf{Type: api.Set, Tombs: []api.Dot{at(0, 1, 0)}}, false},
		{api.Leaf{Type: api.Set, Tombs: []api.Dot{{}}}, false},
		{api.Leaf{Type: api.Set, Items: []api.Item{{Dot: d}}, Tombs: []api.Dot{d}}, false},
		{api.Leaf{Type: api.Set, Items: []api.Item{{Dot: d}, {Dot: e}}, Tombs: []api.Dot{e, at(1, 1, 1)}}, false},
		{api.Leaf{Type: api.Set, N: 1}, false},
		{api.Leaf{Type: api.Set, Time: 1}, false},
		{api.Leaf{Type: api.Set, Dot: d}, false},
		{api.Leaf{Type: api.Set, Text: "u"}, false},
		{api.Leaf{Type: api.Log}, true},
		{api.Leaf{Type: api.Log, Items: []api.Item{{Time: 1, Dot: e, Text: long}, {Time: 2, Dot: d}, {Time: 1 << 40, Dot: at(1, 1, 1)}}}, true},
		{api.Leaf{Type: api.Log, Items: []api.Item{{Time: 3, Dot: d}, {Time: 3, Dot: e}}}, true},
		{api.Leaf{Type: api.Log, Items: []api.Item{{Time: 3, Dot: e}, {Time: 3, Dot: d}}}, false},
		{api.Leaf{Type: api.Log, Items: []api.Item{{Time: 2, Dot: d}, {Time: 1, Dot: e}}}, false},
		{api.Leaf{Type: api.Log, Items: []api.Item{{Time: 1, Dot: d}, {Time: 1, Dot: d}}}, false},
		{api.Leaf{Type: api.Log, Items: []api.Item{{Time: 1, Dot: d}, {Time: 2, Dot: d}}}, false},
		{api.Leaf{Type: api.Log, Items: []api.Item{{Time: 1, Dot: d}, {Time: 2, Dot: e}, {Time: 3, Dot: d}}}, false},
		{api.Leaf{Type: api.Log, Items: []api.Item{{Time: 0, Dot: d}}}, false},
		{api.Leaf{Type: api.Log, Items: []api.Item{{Time: 1<<40 + 1, Dot: d}}}, false},
		{api.Leaf{Type: api.Log, Items: []api.Item{{Time: 1, Dot: d, Text: long + "y"}}}, false},
		{api.Leaf{Type: api.Log, Items: []api.Item{{Time: 1}}}, false},
		{api.Leaf{Type: api.Log, Tombs: []api.Dot{d}}, false},
		{api.Leaf{Type: api.Log, N: 1}, false},
		{api.Leaf{Type: api.Log, Time: 1}, false},
		{api.Leaf{Type: api.Log, Dot: d}, false},
		{api.Leaf{Type: api.Log, Text: "u"}, false},
	} {
		if May(x.l) != x.want || plainMay(x.l) != x.want {
			t.Errorf("%d: May(%v) is %v", i, x.l, !x.want)
		}
	}
}

// P5.1: May as the document's words say it, of leaves of all shapes.
func TestMayAll(t *testing.T) {
	count := map[bool]int{}
	for _, l := range leaves() {
		want := plainMay(l)
		count[want]++
		if got := May(l); got != want {
			t.Fatalf("May(%v) is %v", l, got)
		}
	}
	if count[true] < 100 || count[false] < 100 {
		t.Error("leaves of one kind alone:", count)
	}
}

// P5.1, Rules: leaves are the same, if all that they have is; a list that is not there and an empty one are one.
func TestSame(t *testing.T) {
	base := api.Leaf{Type: 3, N: 1, Time: 2, Dot: at(1, 2, 3), Text: "u", Items: []api.Item{{Time: 1, Dot: at(0, 1, 1), Text: "v"}, {Time: 2, Dot: at(0, 1, 2)}}, Tombs: []api.Dot{at(0, 1, 3), at(0, 1, 4)}}
	copied := base
	copied.Items, copied.Tombs = slices.Clone(base.Items), slices.Clone(base.Tombs)
	if !Same(base, base) || !Same(base, copied) || !Same(api.Leaf{}, api.Leaf{Items: []api.Item{}, Tombs: []api.Dot{}}) || !Same(api.Leaf{Items: []api.Item{}, Tombs: []api.Dot{}}, api.Leaf{}) {
		t.Error("what is the same")
	}
	for i, change := range []func(*api.Leaf){
		func(l *api.Leaf) { l.Type = 4 },
		func(l *api.Leaf) { l.N = -1 },
		func(l *api.Leaf) { l.Time = 3 },
		func(l *api.Leaf) { l.Dot.Rep = 0 },
		func(l *api.Leaf) { l.Dot.Inc = 3 },
		func(l *api.Leaf) { l.Dot.Seq = 4 },
		func(l *api.Leaf) { l.Text = "U" },
		func(l *api.Leaf) { l.Items = nil },
		func(l *api.Leaf) { l.Items = l.Items[:1] },
		func(l *api.Leaf) { l.Items = append(slices.Clip(l.Items), api.Item{}) },
		func(l *api.Leaf) { l.Items = []api.Item{l.Items[1], l.Items[0]} },
		func(l *api.Leaf) { l.Items = slices.Clone(l.Items); l.Items[0].Time = 9 },
		func(l *api.Leaf) { l.Items = slices.Clone(l.Items); l.Items[1].Dot.Seq = 9 },
		func(l *api.Leaf) { l.Items = slices.Clone(l.Items); l.Items[1].Text = "w" },
		func(l *api.Leaf) { l.Tombs = nil },
		func(l *api.Leaf) { l.Tombs = l.Tombs[:1] },
		func(l *api.Leaf) { l.Tombs = append(slices.Clip(l.Tombs), api.Dot{}) },
		func(l *api.Leaf) { l.Tombs = []api.Dot{l.Tombs[1], l.Tombs[0]} },
		func(l *api.Leaf) { l.Tombs = []api.Dot{l.Tombs[0], at(0, 2, 4)} },
	} {
		l := base
		change(&l)
		if Same(base, l) || Same(l, base) || !Same(l, l) {
			t.Error("change", i, l)
		}
	}
}

// P5.1: by Time, then by Dot, of any of both.
func TestAhead(t *testing.T) {
	for _, x := range []struct {
		time  uint64
		d     api.Dot
		other uint64
		o     api.Dot
		want  bool
	}{
		{1, at(9, 1, 1), 2, at(0, 1, 1), true},
		{2, at(0, 1, 1), 1, at(9, 1, 1), false},
		{1, at(0, 1, 1), 1, at(0, 1, 1), false},
		{1, at(0, 1, 1), 1, at(0, 1, 2), true},
		{1, at(0, 1, 9), 1, at(0, 2, 1), true},
		{1, at(0, 4, 9), 1, at(1, 1, 1), true},
		{1, at(1, 1, 1), 1, at(0, 4, 9), false},
		{0, at(0, 0, 0), 0, at(0, 0, 1), true},
		{math.MaxUint64, at(0, 0, 0), 0, at(255, 9, 9), false},
		{0, at(255, math.MaxUint32, math.MaxUint64), math.MaxUint64, at(0, 0, 0), true},
	} {
		if Ahead(x.time, x.d, x.other, x.o) != x.want {
			t.Errorf("Ahead(%d, %v, %d, %v) is %v", x.time, x.d, x.other, x.o, !x.want)
		}
	}
	for _, time := range times() {
		for _, d := range dots() {
			for _, other := range times() {
				for _, o := range dots() {
					if got := Ahead(time, d, other, o); got != plainAhead(time, d, other, o) {
						t.Errorf("Ahead(%d, %v, %d, %v) is %v", time, d, other, o, got)
					}
				}
			}
		}
	}
}
