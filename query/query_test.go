package query

import (
	"math"
	"math/rand"
	"slices"
	"strconv"
	"strings"
	"testing"

	"varve/api"
	"varve/leaf"
	"varve/op"
	"varve/tree"
)

// one tells the n-th dot of replica 0's first life.
func one(n uint64) api.Dot { return api.Dot{Actor: api.Actor{Rep: 0, Inc: 1}, Seq: n} }

func counter(n int64) api.Leaf { return api.Leaf{Type: api.Counter, N: n} }

func register(time uint64, d api.Dot, text string) api.Leaf {
	return api.Leaf{Type: api.Register, Time: time, Dot: d, Text: text}
}

// set tells a set of these texts, by the dots from the first one on, and a tomb ahead of them.
func set(first uint64, texts ...string) api.Leaf {
	l := api.Leaf{Type: api.Set, Tombs: []api.Dot{one(first)}}
	for i, s := range texts {
		l.Items = append(l.Items, api.Item{Dot: one(first + uint64(i) + 1), Text: s})
	}
	return l
}

// log tells a log of these texts, at rising times, by dots that fall.
func log(texts ...string) api.Leaf {
	l := api.Leaf{Type: api.Log}
	for i, s := range texts {
		l.Items = append(l.Items, api.Item{Time: uint64(i) + 1, Dot: one(uint64(len(texts) - i)), Text: s})
	}
	return l
}

// has tells a node of a name and leaves, and nothing below.
func has(name string, l ...api.Leaf) api.Node { return api.Node{Name: name, Leaves: l} }

// over tells a node of a name that has just nodes below.
func over(name string, l ...api.Node) api.Node { return api.Node{Name: name, Below: l} }

// path tells the names of a path.
func path(l ...string) []string { return l }

func ask(kind uint8, l ...string) api.Query { return api.Query{Kind: kind, Path: l} }

func is(l ...string) api.Answer { return api.Answer{Is: true, L: l} }

func number(n int64) api.Answer { return api.Answer{Is: true, N: n} }

func none() api.Answer { return api.Answer{} }

// plainMay is the document's words for a query that may be.
func plainMay(q api.Query) bool {
	switch q.Kind {
	case 1, 2, 3, 4:
		return op.MayPath(q.Path)
	case 5:
		return len(q.Path) == 0 || op.MayPath(q.Path)
	}
	return false
}

// plainNode tells the node that a path's names lead to, if there is one; of no names the tree as one's.
func plainNode(t api.Tree, p []string) api.Node {
	n := api.Node{Below: t}
	for _, s := range p {
		m := map[string]api.Node{}
		for _, x := range n.Below {
			m[x.Name] = x
		}
		n = m[s]
	}
	return n
}

// plainAsk is the document's words for Ask.
func plainAsk(t api.Tree, q api.Query) (api.Answer, api.Errno) {
	if !plainMay(q) || !tree.May(t) {
		return api.Answer{}, api.ErrArg
	}
	n := plainNode(t, q.Path)
	a := api.Answer{}
	if q.Kind == 5 {
		for _, x := range n.Below {
			a.Is, a.L = true, append(a.L, x.Name)
		}
	}
	for _, l := range n.Leaves {
		switch {
		case l.Type == 1 && q.Kind == 1:
			a.Is, a.N = true, l.N
		case l.Type == 2 && q.Kind == 2 && l.Time > 0:
			a.Is, a.L = true, []string{l.Text}
		case l.Type == 3 && q.Kind == 3:
			a.Is = true
			for _, i := range l.Items {
				if !slices.Contains(a.L, i.Text) {
					a.L = append(a.L, i.Text)
				}
			}
			slices.Sort(a.L)
		case l.Type == 4 && q.Kind == 4:
			a.Is = true
			for _, i := range l.Items {
				a.L = append(a.L, i.Text)
			}
		}
	}
	return a, api.OK
}

// plainSame is the document's words for Same.
func plainSame(a, b api.Answer) bool {
	x := append([]string{strconv.FormatBool(a.Is), strconv.FormatInt(a.N, 10)}, a.L...)
	return slices.Equal(x, append([]string{strconv.FormatBool(b.Is), strconv.FormatInt(b.N, 10)}, b.L...))
}

// right tells trees that may be.
func right() []api.Tree {
	full := []api.Leaf{counter(-7), register(3, one(4), "t"), set(1, "v", "u", "v"), log("z", "y", "z")}
	return []api.Tree{
		nil,
		{},
		{has("a", counter(0))},
		{has("a", counter(math.MaxInt64)), has("b", counter(math.MinInt64))},
		{has("a", leaf.New(api.Counter), leaf.New(api.Register), leaf.New(api.Set), leaf.New(api.Log))},
		{has("a", register(1, one(1), ""))},
		{has("a", register(1<<40, one(1), "\x00\xFF")), has("b", register(2, one(1), "t"))},
		{has("a", set(1)), has("b", set(1, "")), has("c", set(5, "", "a", "", "Z", "aa", "\xFF", "a"))},
		{has("a", log("", "a", "")), has("b", log())},
		{has("a", full...)},
		{has("a", full[1]), has("b", full[2])},
		{over("a", has("b", full...), has("c", counter(5)))},
		{has("0", counter(1)), has("A", counter(2)), has("Z", counter(3)), {Name: "a", Leaves: full, Below: api.Tree{over("a", has("a", full...)), over("b", has("c", counter(9)))}}, has("abcdefghijkl", counter(4)), has("b", full[3])},
	}
}

// wrong tells trees that may not be.
func wrong() []api.Tree {
	round := api.Tree{has("a", counter(1))}
	round[0].Below = round
	return []api.Tree{
		{has("a")},
		{has("b", counter(1)), has("a", counter(1))},
		{has("a", counter(1)), has("a", counter(1))},
		{has("a", counter(1), counter(1))},
		{has("a", api.Leaf{Type: 5})},
		{has("-", counter(1))},
		{has("a", register(0, one(1), ""))},
		{over("a", over("b", over("c", has("d", counter(1)))))},
		round,
	}
}

// paths tells paths, and lists of texts that are none.
func paths() [][]string {
	return [][]string{
		nil, {}, {"a"}, {"b"}, {"c"}, {"0"}, {"Z"}, {"abcdefghijkl"}, {"abcdefghijklm"}, {""}, {"-"}, {"*"}, {"a "},
		{"a", "a"}, {"a", "b"}, {"a", "c"}, {"b", "a"}, {"a", ""}, {"", "a"}, {"a", "**"},
		{"a", "a", "a"}, {"a", "b", "c"}, {"a", "b", "d"}, {"a", "b", ""}, {"a", "b", "c", "d"}, {"", "", "", ""},
	}
}

// P8.1: which queries may be: those of the five kinds, whose path is one; of AskNames of no names, too.
func TestMay(t *testing.T) {
	for _, p := range paths() {
		for kind := range 256 {
			q := api.Query{Kind: uint8(kind), Path: p}
			if May(q) != plainMay(q) {
				t.Errorf("May(%v) = %v", q, May(q))
			}
		}
	}
	for _, q := range []api.Query{ask(1, "a"), ask(2, "a", "b"), ask(3, "a", "b", "c"), ask(4, "abcdefghijkl"), ask(5), {Kind: 5, Path: []string{}}, ask(5, "a"), ask(5, "a", "b", "c")} {
		if !May(q) {
			t.Errorf("%v may not be", q)
		}
	}
	for _, q := range []api.Query{{}, ask(0), ask(0, "a"), ask(1), ask(2), ask(3), ask(4), ask(6), ask(6, "a"), ask(255, "a"), ask(1, "", "a"), ask(1, "abcdefghijklm"), ask(5, ""), ask(5, "a", "b", "c", "d"), ask(1, "a", "b", "c", "d")} {
		if May(q) {
			t.Errorf("%v may be", q)
		}
	}
}

// P8.1: the answers, kind by kind.
func TestAsk(t *testing.T) {
	all := right()
	full, deep := all[9], all[12]
	for i, c := range []struct {
		t    api.Tree
		q    api.Query
		want api.Answer
	}{
		{nil, ask(1, "a"), none()}, {nil, ask(2, "a"), none()}, {nil, ask(3, "a"), none()}, {nil, ask(4, "a"), none()}, {nil, ask(5), none()}, {nil, ask(5, "a"), none()},
		{all[2], ask(1, "a"), number(0)}, {all[2], ask(1, "b"), none()}, {all[2], ask(1, "a", "a"), none()},
		{all[3], ask(1, "a"), number(math.MaxInt64)}, {all[3], ask(1, "b"), number(math.MinInt64)}, {all[3], ask(5), is("a", "b")},
		// Leaves to which nothing was applied: just a register's text is not there.
		{all[4], ask(1, "a"), number(0)}, {all[4], ask(2, "a"), none()}, {all[4], ask(3, "a"), is()}, {all[4], ask(4, "a"), is()}, {all[4], ask(5, "a"), none()},
		{all[5], ask(2, "a"), is("")}, {all[6], ask(2, "a"), is("\x00\xFF")},
		{all[7], ask(3, "a"), is()}, {all[7], ask(3, "b"), is("")}, {all[7], ask(3, "c"), is("", "Z", "a", "aa", "\xFF")}, {all[7], ask(4, "c"), none()},
		{all[8], ask(4, "a"), is("", "a", "")}, {all[8], ask(4, "b"), is()}, {all[8], ask(3, "a"), none()},
		{full, ask(1, "a"), number(-7)}, {full, ask(2, "a"), is("t")}, {full, ask(3, "a"), is("u", "v")}, {full, ask(4, "a"), is("z", "y", "z")}, {full, ask(5, "a"), none()}, {full, ask(5), is("a")},
		{all[11], ask(1, "a"), none()}, {all[11], ask(3, "a", "b"), is("u", "v")}, {all[11], ask(5), is("a")}, {all[11], ask(5, "a"), is("b", "c")}, {all[11], ask(5, "a", "b"), none()},
		{deep, ask(5), is("0", "A", "Z", "a", "abcdefghijkl", "b")}, {deep, ask(4, "a", "a", "a"), is("z", "y", "z")}, {deep, ask(5, "a"), is("a", "b")}, {deep, ask(5, "a", "b"), is("c")}, {deep, ask(5, "a", "b", "c"), none()},
	} {
		if a, e := Ask(c.t, c.q); e != api.OK || !plainSame(a, c.want) {
			t.Errorf("%d: Ask(%v, %v) = %v, %d", i, c.t, c.q, a, e)
		}
	}
}

// P8.1: as the document's words say it, of any tree and query; ErrArg, and nothing beside it, of those that may not be.
func TestAskAll(t *testing.T) {
	told := map[api.Errno]int{}
	for _, x := range slices.Concat(right(), wrong()) {
		for _, p := range paths() {
			for kind := range 256 {
				q := api.Query{Kind: uint8(kind), Path: p}
				a, e := Ask(x, q)
				if want, f := plainAsk(x, q); e != f || !plainSame(a, want) {
					t.Fatalf("Ask(%v, %v) = %v, %d", x, q, a, e)
				}
				told[e]++
			}
		}
	}
	if told[api.OK] < 100 || told[api.ErrArg] < 100 || len(told) != 2 {
		t.Error(told)
	}
}

// P8.1: ErrArg, if the query may not be, or the tree.
func TestAskWrong(t *testing.T) {
	for _, q := range []api.Query{{}, ask(0, "a"), ask(1), ask(4), ask(6, "a"), ask(255), ask(5, ""), ask(2, "a", "b", "c", "d")} {
		for _, x := range right() {
			if a, e := Ask(x, q); e != api.ErrArg || !plainSame(a, none()) {
				t.Errorf("Ask(%v, %v) = %v, %d", x, q, a, e)
			}
		}
	}
	for i, x := range wrong() {
		for _, q := range []api.Query{ask(1, "a"), ask(2, "z"), ask(3, "b"), ask(4, "a", "b"), ask(5), ask(5, "a"), {}} {
			if a, e := Ask(x, q); e != api.ErrArg || !plainSame(a, none()) {
				t.Errorf("Ask of the wrong tree %d, %v = %v, %d", i, q, a, e)
			}
		}
	}
}

// P8.1: two answers are the same, if all of them is; a list that is not there and an empty one are one.
func TestSame(t *testing.T) {
	all := []api.Answer{
		{}, {Is: true}, {N: 1}, {Is: true, N: 1}, {Is: true, N: -1}, {L: []string{}}, {Is: true, L: []string{}}, is(""), is("", ""), is("a"), is("b"), is("a", "b"), is("b", "a"), is("a", "b", "a"),
		{L: []string{"a"}}, {Is: true, N: 1, L: []string{"a"}}, {N: math.MinInt64}, {N: math.MaxInt64}, {Is: true, N: 1, L: []string{}},
	}
	for i, a := range all {
		for j, b := range all {
			if Same(a, b) != plainSame(a, b) || i == j && !Same(a, b) {
				t.Errorf("Same(%v, %v) = %v", a, b, Same(a, b))
			}
		}
	}
	if !Same(none(), all[5]) || !Same(all[6], all[1]) || Same(is("a", "b"), is("b", "a")) || Same(is("ab"), is("a", "b")) || Same(number(0), none()) {
		t.Error("answers are told as others")
	}
}

// The document's examples.
func TestExamples(t *testing.T) {
	x := api.Tree{has("a", set(1, "v", "u", "v"))}
	for i, c := range []struct {
		q    api.Query
		want api.Answer
	}{
		{ask(api.AskSet, "a"), is("u", "v")},
		{ask(api.AskSet, "b"), none()},
		{ask(api.AskNames), is("a")},
	} {
		if a, e := Ask(x, c.q); e != api.OK || !Same(a, c.want) {
			t.Error(i, a, e)
		}
	}
}

// What follows: a tree and the same one purged answer alike.
func TestPurged(t *testing.T) {
	for _, x := range right() {
		p, e := tree.Purge(x)
		if e != api.OK || tree.Tombs(p) != 0 {
			t.Fatal(e)
		}
		for _, l := range paths() {
			for kind := range uint8(6) {
				q := api.Query{Kind: kind, Path: l}
				a, e := Ask(x, q)
				if b, f := Ask(p, q); e != f || !plainSame(a, b) {
					t.Errorf("%v answers %v, purged %v", x, a, b)
				}
			}
		}
	}
}

// roomy tells the list with a mark behind it, which must stay.
func roomy(l []string) []string {
	return append(slices.Clone(l), "mark")[:len(l)]
}

// Rules: what is handed in is not changed; what is told is in memory of its own.
func TestOwnMemory(t *testing.T) {
	for _, x := range right() {
		for _, p := range paths() {
			for kind := range uint8(7) {
				q := api.Query{Kind: kind, Path: roomy(p)}
				a, _ := Ask(x, q)
				b, _ := Ask(x, q)
				May(q)
				want, _ := plainAsk(x, q)
				for _, l := range [][]string{a.L, q.Path} {
					for i := range l[:cap(l)] {
						l[:cap(l)][i] += "!"
					}
				}
				if !plainSame(b, want) || q.Path[:len(p)+1][len(p)] != "mark!" {
					t.Fatalf("%v, %v: %v shares memory", x, p, b)
				}
			}
		}
	}
	for i, x := range right() {
		if !tree.Same(x, right()[i]) {
			t.Errorf("%d was changed: %v", i, x)
		}
	}
	a, b := roomy([]string{"a"}), roomy([]string{"a"})
	if !Same(is(a...), is(b...)) || a[:2][1] != "mark" || b[:2][1] != "mark" {
		t.Error("Same changed something")
	}
}

// P1: great trees and deep ones are answered soon, or refused.
func TestGreat(t *testing.T) {
	const n = 200000
	texts := make([]string, n)
	for i := range texts {
		texts[i] = strconv.Itoa(i % 1000)
	}
	var wide api.Tree
	for i := range n / 10 {
		wide = append(wide, has(strconv.Itoa(1000000+i), counter(int64(i))))
	}
	x := api.Tree{{Name: "a", Leaves: []api.Leaf{set(1, texts...), log(texts...)}, Below: wide}}
	for _, c := range []struct {
		kind uint8
		want int
	}{{api.AskNumber, 0}, {api.AskText, 0}, {api.AskSet, 1000}, {api.AskLog, n}, {api.AskNames, n / 10}} {
		if a, e := Ask(x, ask(c.kind, "a")); e != api.OK || a.Is != (c.want > 0) || len(a.L) != c.want || !Same(a, a) {
			t.Error(c.kind, a.Is, len(a.L), e)
		}
	}
	var deep api.Tree
	for range 1 << 16 {
		deep = api.Tree{{Name: "a", Leaves: []api.Leaf{counter(1)}, Below: deep}}
	}
	for _, q := range []api.Query{ask(1, "a"), ask(5), {Kind: 1, Path: slices.Repeat(path("a"), 1<<16)}, {Kind: 5, Path: path(strings.Repeat("a", 1<<20))}} {
		if a, e := Ask(deep, q); e != api.ErrArg || !Same(a, none()) {
			t.Error(a, e)
		}
	}
}

// maker makes trees and queries of bytes.
type maker struct{ b []byte }

// below takes a byte and tells a number below n.
func (m *maker) below(n int) int {
	if len(m.b) == 0 {
		return 0
	}
	x := m.b[0]
	m.b = m.b[1:]
	return int(x) % n
}

// path tells a path, seldom a list of texts that is none.
func (m *maker) path() []string {
	var l []string
	for range []int{1, 1, 2, 2, 3, 1, 0, 4}[m.below(8-min(1, m.below(4)))] {
		l = append(l, []string{"a", "b", "a", "c", "a", "b", "a", "-"}[m.below(8-min(1, m.below(4)))])
	}
	return l
}

// tree tells a tree behind some events, seldom one that may not be.
func (m *maker) tree() api.Tree {
	var t api.Tree
	for n := range m.below(24) {
		o := api.Op{Kind: uint8(m.below(5)) + 1, Path: m.path()}
		switch o.Kind {
		case api.OpAdd:
			o.N = int64(m.below(256)) - 100
		case api.OpDrop:
			o.Dots = []api.Dot{one(uint64(m.below(n+1)) + 1)}
		default:
			o.Text = []string{"u", "v", "", "w"}[m.below(4)]
		}
		if x, e := tree.Apply(t, api.Event{Dot: one(uint64(n) + 1), Time: uint64(m.below(9)) + 1, Op: o}); e == api.OK {
			t = x
		}
	}
	if len(t) > 0 && m.below(16) == 15 {
		t = append(t, t[m.below(len(t))])
	}
	return t
}

// P8.1, What follows: of trees and queries that bytes make.
func FuzzAsk(f *testing.F) {
	r := rand.New(rand.NewSource(8))
	for range 3000 {
		b := make([]byte, r.Intn(200))
		r.Read(b)
		f.Add(b)
	}
	f.Fuzz(func(t *testing.T, b []byte) {
		m := &maker{b}
		q := api.Query{Kind: uint8(m.below(7)), Path: m.path()}
		x := m.tree()
		for _, q := range []api.Query{q, ask(5), ask(1, "a"), ask(2, "a"), ask(3, "a"), ask(4, "a"), ask(5, "a"), ask(q.Kind, "a", "b")} {
			a, e := Ask(x, q)
			if want, f := plainAsk(x, q); e != f || !plainSame(a, want) || May(q) != plainMay(q) {
				t.Fatalf("Ask(%v, %v) = %v, %d, not %v, %d", x, q, a, e, want, f)
			}
			p, f := tree.Purge(x)
			if b, g := Ask(p, q); f == api.OK && (g != e || !Same(a, b)) {
				t.Fatalf("%v purged answers %v, not %v", x, b, a)
			}
		}
	})
}
