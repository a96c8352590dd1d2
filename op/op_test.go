package op

import (
	"math"
	"slices"
	"strings"
	"testing"

	"varve/api"
)

// at tells the dot of these numbers.
func at(rep uint8, inc uint32, seq uint64) api.Dot {
	return api.Dot{Actor: api.Actor{Rep: rep, Inc: inc}, Seq: seq}
}

// rising tells so many dots that may be, rising.
func rising(n int) []api.Dot {
	var l []api.Dot
	for i := range n {
		l = append(l, at(uint8(i/16), uint32(i/4%4+1), uint64(i%4+1)))
	}
	return l
}

// plainName is the document's words for a name.
func plainName(s string) bool {
	return s != "" && len(s) < 13 && strings.Trim(s, "abcdefghijklmnopqrstuvwxyzABCDEFGHIJKLMNOPQRSTUVWXYZ0123456789") == ""
}

// plainPath is the document's words for a path.
func plainPath(p []string) bool {
	switch len(p) {
	case 1:
		return plainName(p[0])
	case 2:
		return plainName(p[0]) && plainName(p[1])
	case 3:
		return plainName(p[0]) && plainName(p[1]) && plainName(p[2])
	}
	return false
}

// plainDot is the document's words for a dot that may be.
func plainDot(d api.Dot) bool {
	return d.Rep <= 15 && d.Inc >= 1 && d.Inc <= 4 && d.Seq >= 1 && d.Seq <= 1<<20
}

// plainPlace tells a dot's place among all that may be.
func plainPlace(d api.Dot) uint64 { return (uint64(d.Rep)*8+uint64(d.Inc))<<32 + d.Seq }

// plainDrops is the document's words for Dots of an OpDrop.
func plainDrops(l []api.Dot) bool {
	last := uint64(0)
	for _, d := range l {
		if !plainDot(d) || plainPlace(d) <= last {
			return false
		}
		last = plainPlace(d)
	}
	return len(l) < 65
}

// plainMay is the document's table of operations that may be.
func plainMay(o api.Op) bool {
	if !plainPath(o.Path) {
		return false
	}
	switch o.Kind {
	case 1:
		return o.N > -1000001 && o.N < 1000001 && o.Text == "" && len(o.Dots) == 0
	case 2, 3, 5:
		return o.N == 0 && len(o.Text) < 41 && len(o.Dots) == 0
	case 4:
		return o.N == 0 && len(o.Text) < 41 && plainDrops(o.Dots)
	}
	return false
}

// paths tells lists of texts, paths and others.
func paths() [][]string {
	return [][]string{
		nil, {}, {""}, {"a"}, {"abcdefghijkl"}, {"abcdefghijklm"}, {"a b"}, {"\x00"}, {"\xC3\xA9"},
		{"a", "b"}, {"a", ""}, {"", "b"}, {"Z", "9", "z0"}, {"a", "b", "-"}, {"a", "b", "c", "d"}, {"a", "a", "a"},
	}
}

// texts tells texts of all lengths that the document speaks of.
func texts() []string {
	return []string{"", "x", "\x00\xFF\n", strings.Repeat("y", 40), strings.Repeat("\xC3\xA9", 20), strings.Repeat("y", 41), strings.Repeat("\xC3\xA9", 21)}
}

// lists tells lists of dots, such as an OpDrop may have, and others.
func lists() [][]api.Dot {
	return [][]api.Dot{
		nil, {}, {at(0, 1, 1)}, {at(15, 4, 1<<20)}, {at(0, 1, 1), at(0, 1, 2)}, {at(0, 1, 2), at(0, 2, 1), at(1, 1, 1)},
		{at(0, 1, 2), at(0, 1, 1)}, {at(0, 1, 1), at(0, 1, 1)}, {at(0, 2, 1), at(0, 1, 2)}, {at(1, 1, 1), at(0, 2, 2)},
		{at(0, 1, 1), at(0, 1, 2), at(0, 1, 2)}, {at(0, 1, 1), at(0, 1, 3), at(0, 1, 2)},
		{{}}, {at(16, 1, 1)}, {at(255, 1, 1)}, {at(0, 0, 1)}, {at(0, 5, 1)}, {at(0, math.MaxUint32, 1)}, {at(0, 1, 0)}, {at(0, 1, 1<<20+1)}, {at(0, 1, math.MaxUint64)},
		{at(0, 1, 1), at(16, 1, 1)}, {at(0, 1, 0), at(0, 1, 1)},
		rising(64), rising(65), rising(128),
	}
}

// ops tells operations of all shapes that the document speaks of.
func ops() []api.Op {
	var l []api.Op
	for _, kind := range []uint8{0, 1, 2, 3, 4, 5, 6, 255} {
		for _, p := range paths() {
			for _, n := range []int64{0, 1, -1, 1000000, -1000000, 1000001, -1000001, math.MaxInt64, math.MinInt64} {
				l = append(l, api.Op{Kind: kind, Path: p, N: n})
			}
			for _, s := range texts() {
				l = append(l, api.Op{Kind: kind, Path: p, Text: s}, api.Op{Kind: kind, Path: p, N: 5, Text: s})
			}
			for _, d := range lists() {
				l = append(l, api.Op{Kind: kind, Path: p, Dots: d}, api.Op{Kind: kind, Path: p, Text: "x", Dots: d}, api.Op{Kind: kind, Path: p, N: -1, Dots: d})
			}
		}
	}
	return l
}

// P4.1: 1 to 12 bytes a to z, A to Z, 0 to 9.
func TestIsName(t *testing.T) {
	for c := range 256 {
		want := c >= 'a' && c <= 'z' || c >= 'A' && c <= 'Z' || c >= '0' && c <= '9'
		one := string([]byte{byte(c)})
		for _, s := range []string{one, "a" + one, one + "a", "a" + one + "a", "ABCDEFGHIJK" + one, one + "01234567890"} {
			if IsName(s) != want {
				t.Errorf("IsName(%q) is %v", s, !want)
			}
		}
	}
	for n := range 300 {
		if got := IsName(strings.Repeat("q", n)); got != (n >= 1 && n <= 12) {
			t.Errorf("IsName of %d bytes is %v", n, got)
		}
	}
	for _, s := range []string{"\xC3\xA9", "a.b", "a b", "a\n", "*", "**", "-1", strings.Repeat("a", 1<<20)} {
		if IsName(s) {
			t.Errorf("IsName(%.20q)", s)
		}
	}
}

// P4.1: 1 to 3 names.
func TestMayPath(t *testing.T) {
	for _, p := range paths() {
		if got := MayPath(p); got != plainPath(p) {
			t.Errorf("MayPath(%q) is %v", p, got)
		}
	}
	for n := range 10 {
		p := slices.Repeat([]string{"abcdefghijkl"}, n)
		if got := MayPath(p); got != (n >= 1 && n <= 3) {
			t.Errorf("MayPath of %d names is %v", n, got)
		}
		for i := range p {
			wrong := slices.Clone(p)
			wrong[i] = "a/b"
			if MayPath(wrong) {
				t.Errorf("MayPath(%q)", wrong)
			}
		}
	}
}

// P4.1: the document's examples.
func TestExamples(t *testing.T) {
	for _, x := range []struct {
		o    api.Op
		want bool
	}{
		{api.Op{Kind: api.OpAdd, Path: []string{"a"}, N: 5}, true},
		{api.Op{Kind: api.OpAdd, Path: []string{"a"}, N: 5, Text: "x"}, false},
		{api.Op{Kind: api.OpDrop, Path: []string{"a", "b"}, Text: "x", Dots: []api.Dot{at(0, 1, 2), at(0, 1, 1)}}, false},
	} {
		if May(x.o) != x.want {
			t.Errorf("May(%v) is %v", x.o, !x.want)
		}
	}
}

// P4.1: what is asked of each kind, at its edges.
func TestMay(t *testing.T) {
	a, long, wrong := []string{"a"}, strings.Repeat("y", 40), []string{"a", "b", "c", "d"}
	two := []api.Dot{at(0, 1, 1), at(0, 1, 2)}
	for _, x := range []struct {
		o    api.Op
		want bool
	}{
		{api.Op{Kind: api.OpAdd, Path: a}, true},
		{api.Op{Kind: api.OpAdd, Path: a, N: 1000000, Dots: []api.Dot{}}, true},
		{api.Op{Kind: api.OpAdd, Path: a, N: -1000000}, true},
		{api.Op{Kind: api.OpAdd, Path: a, N: 1000001}, false},
		{api.Op{Kind: api.OpAdd, Path: a, N: -1000001}, false},
		{api.Op{Kind: api.OpAdd, Path: a, N: math.MinInt64}, false},
		{api.Op{Kind: api.OpAdd, Path: a, N: 5, Dots: two}, false},
		{api.Op{Kind: api.OpAdd, Path: wrong, N: 5}, false},
		{api.Op{Kind: api.OpAdd, N: 5}, false},
		{api.Op{Kind: api.OpSet, Path: a, Text: long}, true},
		{api.Op{Kind: api.OpPut, Path: a, Text: long}, true},
		{api.Op{Kind: api.OpSay, Path: a, Text: long}, true},
		{api.Op{Kind: api.OpSet, Path: a, Text: long + "y"}, false},
		{api.Op{Kind: api.OpPut, Path: a, Text: long + "y"}, false},
		{api.Op{Kind: api.OpSay, Path: a, Text: long + "y"}, false},
		{api.Op{Kind: api.OpSet, Path: a}, true},
		{api.Op{Kind: api.OpPut, Path: a, Text: "\x00\xFF"}, true},
		{api.Op{Kind: api.OpSay, Path: a, N: 1}, false},
		{api.Op{Kind: api.OpSay, Path: a, N: -1}, false},
		{api.Op{Kind: api.OpSet, Path: a, Dots: two}, false},
		{api.Op{Kind: api.OpPut, Path: a, Dots: two}, false},
		{api.Op{Kind: api.OpSay, Path: a, Dots: two}, false},
		{api.Op{Kind: api.OpDrop, Path: a}, true},
		{api.Op{Kind: api.OpDrop, Path: a, Text: long, Dots: rising(64)}, true},
		{api.Op{Kind: api.OpDrop, Path: a, Text: long, Dots: rising(65)}, false},
		{api.Op{Kind: api.OpDrop, Path: a, Text: long + "y"}, false},
		{api.Op{Kind: api.OpDrop, Path: a, N: 1, Dots: two}, false},
		{api.Op{Kind: api.OpDrop, Path: wrong, Dots: two}, false},
		{api.Op{Kind: api.OpDrop, Path: a, Dots: []api.Dot{at(0, 1, 1), at(0, 1, 1)}}, false},
		{api.Op{Kind: api.OpDrop, Path: a, Dots: []api.Dot{at(0, 2, 1), at(0, 1, 2)}}, false},
		{api.Op{Kind: api.OpDrop, Path: a, Dots: []api.Dot{at(0, 1, 0)}}, false},
		{api.Op{Path: a}, false},
		{api.Op{Kind: 6, Path: a}, false},
		{api.Op{}, false},
	} {
		if May(x.o) != x.want {
			t.Errorf("May(%v) is %v", x.o, !x.want)
		}
	}
	for _, o := range ops() {
		if got := May(o); got != plainMay(o) {
			t.Errorf("May(%v) is %v", o, got)
		}
	}
}

// P4.1: the type of leaves that a kind is of; 0 of what is no kind; and what is no kind may not be.
func TestType(t *testing.T) {
	want := [256]uint8{api.OpAdd: api.Counter, api.OpSet: api.Register, api.OpPut: api.Set, api.OpDrop: api.Set, api.OpSay: api.Log}
	for kind := range 256 {
		if got := Type(uint8(kind)); got != want[kind] {
			t.Errorf("Type(%d) = %d, want %d", kind, got, want[kind])
		}
		if got := May(api.Op{Kind: uint8(kind), Path: []string{"a"}}); got != (want[kind] != 0) {
			t.Errorf("an operation of the kind %d may be: %v", kind, got)
		}
	}
}

// P4.1, Rules: operations are the same, if all that they have is; a list that is not there and an empty one are one.
func TestSame(t *testing.T) {
	base := api.Op{Kind: 4, Path: []string{"a", "b"}, N: 1, Text: "x", Dots: []api.Dot{at(0, 1, 1), at(0, 1, 2)}}
	copied := base
	copied.Path, copied.Dots = slices.Clone(base.Path), slices.Clone(base.Dots)
	if !Same(base, base) || !Same(base, copied) || !Same(api.Op{}, api.Op{Path: []string{}, Dots: []api.Dot{}}) || !Same(api.Op{Path: []string{}, Dots: []api.Dot{}}, api.Op{}) {
		t.Error("what is the same")
	}
	for i, change := range []func(*api.Op){
		func(o *api.Op) { o.Kind = 3 },
		func(o *api.Op) { o.Path = nil },
		func(o *api.Op) { o.Path = []string{"a"} },
		func(o *api.Op) { o.Path = []string{"a", "c"} },
		func(o *api.Op) { o.Path = []string{"b", "a"} },
		func(o *api.Op) { o.Path = []string{"ab", ""} },
		func(o *api.Op) { o.Path = []string{"a", "b", ""} },
		func(o *api.Op) { o.N = -1 },
		func(o *api.Op) { o.Text = "X" },
		func(o *api.Op) { o.Text = "" },
		func(o *api.Op) { o.Dots = nil },
		func(o *api.Op) { o.Dots = o.Dots[:1] },
		func(o *api.Op) { o.Dots = []api.Dot{at(0, 1, 2), at(0, 1, 1)} },
		func(o *api.Op) { o.Dots = []api.Dot{at(0, 1, 1), at(0, 1, 3)} },
		func(o *api.Op) { o.Dots = []api.Dot{at(0, 1, 1), at(0, 2, 2)} },
		func(o *api.Op) { o.Dots = []api.Dot{at(0, 1, 1), at(1, 1, 2)} },
		func(o *api.Op) { o.Dots = []api.Dot{at(0, 1, 1), at(0, 1, 2), {}} },
	} {
		o := base
		change(&o)
		if Same(base, o) || Same(o, base) || !Same(o, o) {
			t.Error("change", i, o)
		}
	}
}

// P4.1: an event may be, if its dot may be, its Time is 1 to 2^40, and its operation may be.
func TestMayEvent(t *testing.T) {
	good := api.Op{Kind: api.OpSay, Path: []string{"a"}}
	for _, o := range []api.Op{good, {Kind: api.OpSay}, {Kind: api.OpSay, Path: []string{"a"}, N: 1}, {}} {
		for _, d := range slices.Concat(lists()...) {
			for time, may := range map[uint64]bool{0: false, 1: true, 2: true, 1 << 40: true, 1<<40 + 1: false, math.MaxUint64: false} {
				e := api.Event{Dot: d, Time: time, Op: o}
				if got, want := MayEvent(e), may && plainDot(d) && plainMay(o); got != want {
					t.Errorf("MayEvent(%v) is %v", e, got)
				}
			}
		}
	}
	if MayEvent(api.Event{}) || !MayEvent(api.Event{Dot: at(0, 1, 1), Time: 1, Op: good}) {
		t.Error("events")
	}
}

// Rules: what is handed in is not changed.
func TestNotChanged(t *testing.T) {
	for _, o := range ops() {
		p, d := slices.Clone(o.Path), slices.Clone(o.Dots)
		IsName(o.Text)
		MayPath(o.Path)
		May(o)
		MayEvent(api.Event{Op: o})
		Same(o, o)
		Put(nil, o)
		Bytes(api.Event{Dot: at(0, 1, 1), Time: 1, Op: o})
		if !slices.Equal(o.Path, p) || !slices.Equal(o.Dots, d) {
			t.Fatal("changed:", o)
		}
	}
}

// P1: a great operation's calls end soon, too.
func TestGreat(t *testing.T) {
	d := make([]api.Dot, 1<<20)
	for i := range d {
		d[i] = at(0, 1, uint64(i+1))
	}
	o := api.Op{Kind: api.OpDrop, Path: slices.Repeat([]string{"a"}, 1<<20), Text: strings.Repeat("x", 1<<20), Dots: d}
	if May(o) || MayPath(o.Path) || IsName(o.Text) || MayEvent(api.Event{Dot: at(0, 1, 1), Time: 1, Op: o}) || !Same(o, o) {
		t.Error("a great operation")
	}
	if b := Put(nil, o); len(b) < 6<<20 {
		t.Error(len(b))
	}
	o.Path, o.Text = o.Path[:1], ""
	if May(o) {
		t.Error("dots beyond number")
	}
}
