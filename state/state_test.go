package state

import (
	"bytes"
	"encoding/binary"
	"math"
	"math/rand"
	"slices"
	"strconv"
	"strings"
	"testing"

	"varve/api"
	"varve/code"
	"varve/leaf"
	"varve/tree"
)

// at tells the dot of these numbers.
func at(rep uint8, inc uint32, seq uint64) api.Dot {
	return api.Dot{Actor: api.Actor{Rep: rep, Inc: inc}, Seq: seq}
}

// one tells the n-th dot of replica 0's first life.
func one(n uint64) api.Dot { return at(0, 1, n) }

func dotsIn(l ...api.Dot) []api.Dot { return l }

func counter(n int64) api.Leaf { return api.Leaf{Type: api.Counter, N: n} }

func register(time uint64, d api.Dot, text string) api.Leaf {
	return api.Leaf{Type: api.Register, Time: time, Dot: d, Text: text}
}

func set(tombs []api.Dot, items ...api.Item) api.Leaf {
	return api.Leaf{Type: api.Set, Items: items, Tombs: tombs}
}

func log(items ...api.Item) api.Leaf { return api.Leaf{Type: api.Log, Items: items} }

// in tells a set's item.
func in(d api.Dot, text string) api.Item { return api.Item{Dot: d, Text: text} }

// said tells a log's item.
func said(time uint64, d api.Dot, text string) api.Item {
	return api.Item{Time: time, Dot: d, Text: text}
}

// has tells a node of a name and leaves, and nothing below.
func has(name string, l ...api.Leaf) api.Node { return api.Node{Name: name, Leaves: l} }

// over tells a node of a name that has just nodes below.
func over(name string, l ...api.Node) api.Node { return api.Node{Name: name, Below: l} }

func treeOf(l ...api.Node) api.Tree { return l }

// nums tells the bytes of numbers, one behind the other.
func nums(ns ...uint64) []byte {
	var b []byte
	for _, n := range ns {
		b = binary.AppendUvarint(b, n)
	}
	return b
}

// plainText tells a text's bytes.
func plainText(s string) []byte { return append(nums(uint64(len(s))), s...) }

// plainDot tells a dot's bytes.
func plainDot(d api.Dot) []byte { return nums(uint64(d.Rep), uint64(d.Inc), d.Seq) }

// plainPut is the document's words for a tree's bytes.
func plainPut(t api.Tree) []byte {
	b := [][]byte{nums(uint64(len(t)))}
	for _, n := range t {
		b = append(b, plainText(n.Name), nums(uint64(len(n.Leaves))))
		for _, l := range n.Leaves {
			b = append(b, nums(uint64(l.Type)), binary.AppendVarint(nil, l.N), nums(l.Time), plainDot(l.Dot), plainText(l.Text))
			b = append(b, nums(uint64(len(l.Items))))
			for _, i := range l.Items {
				b = append(b, nums(i.Time), plainDot(i.Dot), plainText(i.Text))
			}
			b = append(b, nums(uint64(len(l.Tombs))))
			for _, d := range l.Tombs {
				b = append(b, plainDot(d))
			}
		}
		b = append(b, plainPut(n.Below))
	}
	return slices.Concat(b...)
}

// plain takes bytes by the document's words: it panics with its first error. Odd is whether a number was above what its part holds.
type plain struct {
	b   []byte
	odd bool
}

func (p *plain) num() uint64 {
	n, size := binary.Uvarint(p.b)
	switch {
	case size < 0 || size == 0 && len(p.b) >= 10:
		panic(api.ErrOver)
	case size == 0:
		panic(api.ErrShort)
	case size > 1 && p.b[size-1] == 0:
		panic(api.ErrForm)
	}
	p.b = p.b[size:]
	return n
}

func (p *plain) whole() int64 {
	b := p.b
	p.num()
	n, _ := binary.Varint(b)
	return n
}

func (p *plain) text(most uint64) string {
	b := p.b
	n := p.num()
	rest := p.b
	p.b = b
	if n > most {
		panic(api.ErrLong)
	}
	if n > uint64(len(rest)) {
		panic(api.ErrShort)
	}
	p.b = rest[n:]
	return string(rest[:n])
}

// small takes a number that is odd above most.
func (p *plain) small(most uint64) uint64 {
	n := p.num()
	p.odd = p.odd || n > most
	return n
}

func (p *plain) dot() api.Dot {
	rep, inc, seq := p.small(1<<8-1), p.small(1<<32-1), p.num()
	return at(uint8(rep), uint32(inc), seq)
}

func (p *plain) leaf() api.Leaf {
	l := api.Leaf{Type: uint8(p.small(1<<8 - 1))}
	l.N = p.whole()
	l.Time = p.num()
	l.Dot = p.dot()
	l.Text = p.text(40)
	for n := p.num(); n > 0; n-- {
		i := api.Item{Time: p.num()}
		i.Dot = p.dot()
		i.Text = p.text(40)
		l.Items = append(l.Items, i)
	}
	for n := p.num(); n > 0; n-- {
		l.Tombs = append(l.Tombs, p.dot())
	}
	return l
}

// tree takes a tree whose names are as deep as told.
func (p *plain) tree(deep int) api.Tree {
	n := p.num()
	if deep > 3 && n > 0 {
		panic(api.ErrForm)
	}
	var t api.Tree
	for ; n > 0; n-- {
		x := api.Node{Name: p.text(12)}
		for n := p.num(); n > 0; n-- {
			x.Leaves = append(x.Leaves, p.leaf())
		}
		x.Below = p.tree(deep + 1)
		t = append(t, x)
	}
	return t
}

func (p *plain) take() api.Tree {
	t := p.tree(1)
	if p.odd || !tree.May(t) {
		panic(api.ErrForm)
	}
	return t
}

// first tells the error with which the step ends.
func first(step func()) (e api.Errno) {
	defer func() {
		if x := recover(); x != nil {
			e = x.(api.Errno)
		}
	}()
	step()
	return api.OK
}

// plainTake is the document's words for Take: the tree, how many bytes are left, and the error.
func plainTake(b []byte) (api.Tree, int, api.Errno) {
	p := &plain{b: b}
	var t api.Tree
	e := first(func() { t = p.take() })
	return t, len(p.b), e
}

// plainRead is the document's words for Read.
func plainRead(b []byte) (api.Tree, api.Errno) {
	t, left, e := plainTake(b)
	if e == api.OK && left > 0 {
		return nil, api.ErrForm
	}
	return t, e
}

// full tells leaves of all types.
func full() []api.Leaf {
	u, v := in(one(1), "u"), in(at(1, 2, 300), "v")
	return []api.Leaf{counter(-7), register(300, at(15, 4, 1<<20), "w"), set(dotsIn(one(2), one(3)), u, v), log(said(1, one(9), "x"), said(1<<40, one(8), strings.Repeat("y", 40)))}
}

// right tells trees that may be, no two of them the same.
func right() []api.Tree {
	c := counter(5)
	var many api.Tree
	for i := range 300 {
		many = append(many, has(strconv.Itoa(1000+i), c))
	}
	var drops []api.Dot
	for n := range uint64(200) {
		drops = append(drops, one(n+1))
	}
	return []api.Tree{
		nil,
		treeOf(has("a", counter(0))),
		treeOf(has("a", c)),
		treeOf(has("a", counter(-5))),
		treeOf(has("a", counter(math.MaxInt64)), has("b", counter(math.MinInt64))),
		treeOf(has("a", leaf.New(api.Register))),
		treeOf(has("a", leaf.New(api.Set))),
		treeOf(has("a", leaf.New(api.Log))),
		treeOf(has("a", leaf.New(api.Counter), leaf.New(api.Register), leaf.New(api.Set), leaf.New(api.Log))),
		treeOf(has("b", c)),
		treeOf(has("abcdefghijkl", c)),
		treeOf(has("a", register(1, one(1), ""))),
		treeOf(has("a", register(1, one(1), "\x00\xFF\x80"))),
		treeOf(has("a", register(2, one(1), ""))),
		treeOf(has("a", register(1, one(2), ""))),
		treeOf(has("a", set(nil, in(one(1), "")))),
		treeOf(has("a", set(dotsIn(one(1))))),
		treeOf(has("a", set(dotsIn(one(1)), in(one(2), "")))),
		treeOf(has("a", set(drops))),
		treeOf(has("a", log(said(1, one(1), "")))),
		treeOf(has("a", full()...)),
		treeOf(over("a", has("b", c))),
		treeOf(over("a", over("b", has("c", full()...)))),
		treeOf(over("a", over("a", has("a", c)))),
		treeOf(api.Node{Name: "a", Leaves: []api.Leaf{c}, Below: treeOf(has("b", counter(6)))}),
		treeOf(has("a", c), has("b", counter(6))),
		treeOf(over("a", has("b", c), has("c", c))),
		treeOf(over("a", has("b", c)), has("c", c)),
		treeOf(has("0", c), has("9", c), has("A", c), has("Z", c), has("a", c), has("a0", c), has("aa", c), has("b", c)),
		treeOf(has("a", full()...), over("b", has("a", full()...), over("c", has("a", full()...), has("b", set(dotsIn(one(5)))))), has("c", c)),
		many,
	}
}

// wrong tells trees that may not be; those whose names are too deep are not among them.
func wrong() []api.Tree {
	c := counter(5)
	l := []api.Tree{
		treeOf(has("a")),
		treeOf(has("", c)), treeOf(has("-", c)), treeOf(has("a b", c)), treeOf(has("*", c)), treeOf(has("\xC3\xA9", c)),
		treeOf(has("b", c), has("a", c)), treeOf(has("a", c), has("a", c)), treeOf(has("a", c), has("Z", c)), treeOf(has("aa", c), has("a", c)),
		treeOf(has("a", c, c)), treeOf(has("a", leaf.New(api.Register), c)), treeOf(has("a", leaf.New(api.Log), leaf.New(api.Set))),
		treeOf(has("a", api.Leaf{})), treeOf(has("a", api.Leaf{Type: 5})), treeOf(has("a", api.Leaf{Type: 255})), treeOf(has("a", c, api.Leaf{Type: 128})), treeOf(has("a", api.Leaf{}, c)),
		treeOf(has("a", api.Leaf{Type: api.Counter, Text: "u"})), treeOf(has("a", api.Leaf{Type: api.Counter, Time: 1})), treeOf(has("a", api.Leaf{Type: api.Counter, Dot: one(1)})),
		treeOf(has("a", api.Leaf{Type: api.Counter, Items: []api.Item{in(one(1), "")}})), treeOf(has("a", api.Leaf{Type: api.Counter, Tombs: dotsIn(one(1))})),
		treeOf(has("a", register(0, one(1), ""))), treeOf(has("a", register(1<<40+1, one(1), ""))), treeOf(has("a", register(math.MaxUint64, one(1), ""))), treeOf(has("a", register(1, one(0), ""))),
		treeOf(has("a", register(1, at(255, math.MaxUint32, math.MaxUint64), ""))), treeOf(has("a", api.Leaf{Type: api.Register, N: 1})),
		treeOf(has("a", set(nil, in(one(2), ""), in(one(1), "")))), treeOf(has("a", set(dotsIn(one(1)), in(one(1), "")))), treeOf(has("a", set(dotsIn(one(1), one(1))))), treeOf(has("a", set(nil, said(1, one(1), "")))),
		treeOf(has("a", log(said(0, one(1), "")))), treeOf(has("a", log(said(1, one(1), ""), said(2, one(1), "")))), treeOf(has("a", api.Leaf{Type: api.Log, Tombs: dotsIn(one(1))})),
	}
	for _, t := range slices.Clone(l) {
		l = append(l, treeOf(over("a", t...)), treeOf(over("a", over("b", t...))), treeOf(has("A", c), over("b", t...)), treeOf(api.Node{Name: "a", Leaves: full(), Below: t}))
	}
	return l
}

// long tells trees that may not be, as a name or a text of them is too long.
func long() []api.Tree {
	name, text := strings.Repeat("a", 13), strings.Repeat("y", 41)
	return []api.Tree{
		treeOf(has(name, counter(1))), treeOf(over("a", has(name, counter(1)))), treeOf(over("a", over("b", has(strings.Repeat("a", 300), counter(1))))),
		treeOf(has("a", register(1, one(1), text))), treeOf(has("a", set(nil, in(one(1), text)))), treeOf(over("a", has("b", log(said(1, one(1), text))))), treeOf(has("a", api.Leaf{Type: api.Counter, Text: text})),
	}
}

// deep tells trees that may not be, as nodes of them are more than three names deep.
func deep() []api.Tree {
	c := counter(5)
	return []api.Tree{
		treeOf(over("a", over("b", over("c", has("d", c))))),
		treeOf(over("a", over("b", over("c", over("d", has("e", c)))))),
		treeOf(over("a", over("b", over("c", has("d"))))),
		treeOf(over("a", over("b", api.Node{Name: "c", Leaves: []api.Leaf{c}, Below: treeOf(has("d", c))}))),
		treeOf(over("a", has("A", c), over("b", has("B", c), over("c", has("", c), has("", c))))),
	}
}

// anyTrees tells trees that may be and others.
func anyTrees() []api.Tree { return slices.Concat(right(), wrong(), long(), deep()) }

// The document's examples.
func TestExamples(t *testing.T) {
	for _, x := range []struct {
		t    api.Tree
		want string
	}{
		{nil, "\x00"},
		{treeOf(has("a", counter(5))), "\x01\x01\x61\x01\x01\x0A\x00\x00\x00\x00\x00\x00\x00\x00"},
	} {
		if b, e := Bytes(x.t); e != api.OK || string(b) != x.want {
			t.Errorf("Bytes(%v) = %x, %d", x.t, b, e)
		}
		if got, e := Read([]byte(x.want)); e != api.OK || !tree.Same(got, x.t) {
			t.Errorf("Read(%x) = %v, %d", x.want, got, e)
		}
	}
}

// P9.1: each part in its place, of any tree, behind b.
func TestPut(t *testing.T) {
	for _, x := range []struct {
		t    api.Tree
		want string
	}{
		{nil, "\x00"},
		{api.Tree{}, "\x00"},
		{treeOf(has("a")), "\x01\x01a\x00\x00"},
		{treeOf(has("a", counter(-1))), "\x01\x01a\x01" + "\x01\x01\x00\x00\x00\x00\x00\x00\x00" + "\x00"},
		{treeOf(has("ab", register(300, at(1, 2, 3), "xyz")), has("")), "\x02\x02ab\x01" + "\x02\x00\xAC\x02\x01\x02\x03\x03xyz\x00\x00" + "\x00" + "\x00\x00\x00"},
		{treeOf(over("b", over("a", has("c", set(dotsIn(at(4, 5, 6), at(7, 8, 9)), said(1, at(2, 3, 4), "u"), in(at(5, 6, 7), "")))))), "\x01\x01b\x00\x01\x01a\x00\x01\x01c\x01" + "\x03\x00\x00\x00\x00\x00\x00" + "\x02\x01\x02\x03\x04\x01u\x00\x05\x06\x07\x00" + "\x02\x04\x05\x06\x07\x08\x09" + "\x00"},
		{treeOf(api.Node{Name: "a", Leaves: []api.Leaf{{Type: 255, Dot: at(255, math.MaxUint32, math.MaxUint64)}, {}}, Below: treeOf(has("b"))}), "\x01\x01a\x02" + "\xFF\x01\x00\x00\xFF\x01\xFF\xFF\xFF\xFF\x0F\xFF\xFF\xFF\xFF\xFF\xFF\xFF\xFF\xFF\x01\x00\x00\x00" + "\x00\x00\x00\x00\x00\x00\x00\x00\x00" + "\x01\x01b\x00\x00"},
	} {
		if got := Put(nil, x.t); string(got) != x.want {
			t.Errorf("Put(%v) = %x, want %x", x.t, got, x.want)
		}
	}
	for _, x := range anyTrees() {
		want := plainPut(x)
		if got := Put(nil, x); !bytes.Equal(got, want) {
			t.Errorf("Put(%v) = %x, want %x", x, got, want)
		}
		if got := Put([]byte("ahead"), x); string(got) != "ahead"+string(want) {
			t.Errorf("Put of %v behind bytes = %x", x, got)
		}
	}
}

// Rules: what is handed to Put is not changed, whatever room is behind it, and what is told is in memory of its own.
func TestPutOwnMemory(t *testing.T) {
	for _, x := range []api.Tree{nil, right()[2], right()[20]} {
		for _, ahead := range []int{0, 1, 100} {
			room := bytes.Repeat([]byte{7}, 1000)
			got := Put(room[:ahead], x)
			clear(got[:cap(got)])
			if !bytes.Equal(room, bytes.Repeat([]byte{7}, 1000)) {
				t.Error("Put shares memory with what is handed in, or writes behind it:", ahead)
			}
			got, other := Put(room[:ahead], x), Put(room[:ahead], right()[3])
			if !bytes.Equal(got[ahead:], plainPut(x)) || !bytes.Equal(other[ahead:], plainPut(right()[3])) {
				t.Error("two behind the same bytes:", ahead, got, other)
			}
		}
	}
}

// P9.1: Take takes what Put lays, of trees that may be, and leaves what is behind.
func TestTake(t *testing.T) {
	var all []byte
	for _, x := range right() {
		all = Put(all, x)
	}
	r := code.NewReader(append(all, 9))
	for _, x := range right() {
		if got := Take(r); !tree.Same(got, x) || r.Err() != api.OK {
			t.Fatalf("Take tells %v, %d, want %v", got, r.Err(), x)
		}
	}
	if r.Left() != 1 || r.Num() != 9 {
		t.Error("what is behind")
	}
}

// takes checks that Take leaves that error and so many bytes to the reader, and tells no tree.
func takes(t *testing.T, name string, b []byte, want api.Errno, left int) {
	t.Helper()
	r := code.NewReader(b)
	if x := Take(r); x != nil || r.Err() != want || r.Left() != left {
		t.Errorf("%s: Take of %.60x tells %v, %d with %d left, want %d with %d left", name, b, x, r.Err(), r.Left(), want, left)
	}
	if x, rest, e := plainTake(b); x != nil || rest != left || e != want {
		t.Errorf("%s: the test's own words tell %v, %d with %d left", name, x, e, rest)
	}
}

// P9.1: of trees that may not be: ErrForm, once all of it is read, but at once, if there are nodes too deep; ErrLong of what is too long.
func TestTakeMayNot(t *testing.T) {
	for _, x := range wrong() {
		takes(t, "may not be", append(plainPut(x), 9, 9), api.ErrForm, 2)
		takes(t, "may not be, and short", plainPut(x)[:len(plainPut(x))-1], api.ErrShort, 0)
	}
	early := func(x api.Tree, want api.Errno) {
		t.Helper()
		b := append(plainPut(x), 9, 9)
		_, left, _ := plainTake(b)
		if takes(t, "early", b, want, left); left <= 2 {
			t.Errorf("all is read of %v", x)
		}
	}
	for _, x := range long() {
		early(x, api.ErrLong)
	}
	for _, x := range deep() {
		early(x, api.ErrForm)
	}
}

// P9.1: what is told of wrong bytes, what ahead of what, and what is gone then.
func TestTakeWrong(t *testing.T) {
	over := strings.Repeat("\xFF", 10)
	a, zeros := "\x01\x01a\x01", "\x00\x00\x00\x00\x00\x00\x00" // a node a of one leaf; N, Time, the dot, Text, Items of a leaf that has none of them
	three := "\x01\x01a\x00\x01\x01b\x00\x01\x01c\x00"
	name13, text41 := "\x0D"+strings.Repeat("a", 13), "\x29"+strings.Repeat("y", 41)
	for _, x := range []struct {
		name string
		b    string
		want api.Errno
		left int
	}{
		{"nothing", "", api.ErrShort, 0},
		{"how many nodes ends within", "\x81", api.ErrShort, 1},
		{"how many nodes, not canonical", "\x80\x00", api.ErrForm, 2},
		{"how many nodes, beyond number", over + "\x01", api.ErrOver, 11},
		{"no nodes there", "\x01", api.ErrShort, 0},
		{"nodes up to the greatest number", string(nums(math.MaxUint64)), api.ErrShort, 0},
		{"a second node that is missing", "\x02\x01a\x01\x01" + zeros + "\x00\x00", api.ErrShort, 0},
		{"a name that is short", "\x01\x02a", api.ErrShort, 2},
		{"a name too long", "\x01" + name13 + "\x00\x00", api.ErrLong, 16},
		{"a name too long, and short", "\x01\x0D", api.ErrLong, 1},
		{"a name of wrong bytes, and short", "\x01\x01-\x00", api.ErrShort, 0},
		{"a name's length beyond number", "\x01" + over, api.ErrOver, 10},
		{"no leaves told", "\x01\x01a", api.ErrShort, 0},
		{"how many leaves, not canonical", "\x01\x01a\x81\x00", api.ErrForm, 2},
		{"leaves up to the greatest number", "\x01\x01a" + string(nums(math.MaxUint64)), api.ErrShort, 0},
		{"five leaves", "\x01\x01a\x05" + strings.Repeat("\x01"+zeros+"\x00", 5) + "\x00", api.ErrForm, 0},
		{"five leaves, and short", "\x01\x01a\x05" + strings.Repeat("\x01"+zeros+"\x00", 4), api.ErrShort, 0},
		{"Type 0", a + "\x00" + zeros + "\x00\x00\x09", api.ErrForm, 1},
		{"Type 5, and short", a + "\x05" + zeros, api.ErrShort, 0},
		{"Type 256, not at once", a + "\x80\x02" + zeros + "\x00\x00\x09", api.ErrForm, 1},
		{"Type 256, and short", a + "\x80\x02" + zeros + "\x00", api.ErrShort, 0},
		{"Type 256, and a Text too long", a + "\x80\x02\x00\x00\x00\x00\x00\x29", api.ErrLong, 1},
		{"Type not canonical", a + "\x81\x00", api.ErrForm, 2},
		{"Type beyond number", a + over, api.ErrOver, 10},
		{"N beyond number", a + "\x01" + over, api.ErrOver, 10},
		{"N not canonical", a + "\x01\x80\x00", api.ErrForm, 2},
		{"Time beyond number", a + "\x01\x00" + over, api.ErrOver, 10},
		{"Time beyond 2^40", a + "\x02\x00" + string(nums(1<<40+1)) + "\x00\x01\x01\x00\x00\x00\x00", api.ErrForm, 0},
		{"Rep beyond number", a + "\x01\x00\x00" + over, api.ErrOver, 10},
		{"Inc beyond number", a + "\x01\x00\x00\x00" + over, api.ErrOver, 10},
		{"Seq beyond number", a + "\x01\x00\x00\x00\x00" + over, api.ErrOver, 10},
		{"a dot that may not be, and short", a + "\x02\x00\x01\x10\x01\x01", api.ErrShort, 0},
		{"a Text short", a + "\x02\x00\x01\x00\x01\x01\x03xy", api.ErrShort, 3},
		{"a Text too long", a + "\x02\x00\x01\x00\x01\x01" + text41 + "\x00\x00\x00", api.ErrLong, 45},
		{"a Text too long, and short", a + "\x02\x00\x01\x00\x01\x01\x29", api.ErrLong, 1},
		{"no Items told", a + "\x01\x00\x00\x00\x00\x00\x00", api.ErrShort, 0},
		{"Items of a counter", a + "\x01\x00\x00\x00\x00\x00\x00\x01\x00\x00\x01\x01\x00\x00\x00", api.ErrForm, 0},
		{"Items up to the greatest number", a + "\x03\x00\x00\x00\x00\x00\x00" + string(nums(math.MaxUint64)) + "\x00\x00\x01\x01\x00", api.ErrShort, 0},
		{"an item's Time beyond number", a + "\x04\x00\x00\x00\x00\x00\x00\x01" + over, api.ErrOver, 10},
		{"an item's dot beyond number", a + "\x04\x00\x00\x00\x00\x00\x00\x01\x01" + over, api.ErrOver, 10},
		{"an item's Text too long", a + "\x04\x00\x00\x00\x00\x00\x00\x01\x01\x00\x01\x01" + text41, api.ErrLong, 42},
		{"items falling, and one too long", a + "\x03\x00\x00\x00\x00\x00\x00\x03\x00\x00\x01\x02\x00\x00\x00\x01\x01\x00\x00\x00\x01\x03\x29", api.ErrLong, 1},
		{"no Tombs told", a + "\x01" + zeros, api.ErrShort, 0},
		{"Tombs up to the greatest number", a + "\x03" + zeros + string(nums(math.MaxUint64)) + "\x00\x01\x01", api.ErrShort, 0},
		{"Tombs twice", a + "\x03" + zeros + "\x02\x00\x01\x01\x00\x01\x01\x00", api.ErrForm, 0},
		{"a tomb's number beyond number", a + "\x03" + zeros + "\x01\x00\x01" + over, api.ErrOver, 10},
		{"nothing below told", a + "\x01" + zeros + "\x00", api.ErrShort, 0},
		{"neither leaves nor nodes below", "\x01\x01a\x00\x00\x09", api.ErrForm, 1},
		{"names falling, and short", "\x03\x01b\x01\x01" + zeros + "\x00\x00\x01a\x01\x01" + zeros + "\x00\x00", api.ErrShort, 0},
		{"three deep, and nothing there", three + "\x00\x09", api.ErrForm, 1},
		{"four deep, at once", three + "\x01", api.ErrForm, 0},
		{"four deep, at once, and more", three + "\x01\x01d\x00\x00", api.ErrForm, 4},
		{"four deep, at once, and a name too long", three + "\x02\x29", api.ErrForm, 1},
		{"four deep, up to the greatest number", three + string(nums(math.MaxUint64)) + "\x01d", api.ErrForm, 2},
		{"four deep, and how many beyond number", three + over, api.ErrOver, 10},
		{"four deep, and how many ends within", three + "\x81", api.ErrShort, 1},
	} {
		takes(t, x.name, []byte(x.b), x.want, x.left)
	}
}

// cuts tells numbers above most that would be n, if they were cut to fewer bits.
func cuts(n, most uint64) []uint64 {
	return slices.DeleteFunc([]uint64{n + 1<<8, n + 1<<16, n + 1<<32, n + 1<<63, n + 1<<48 + 1<<9}, func(x uint64) bool { return x <= most })
}

// P9.1, P9.2: a Type, Rep or Inc is not cut to what its part holds, wherever it stands: also where a leaf's dot is nought.
func TestNumbersAreNotCut(t *testing.T) {
	lay := func(kind uint64, d, i, tomb [3]uint64, items, tombs int, time uint64) []byte {
		b := append([]byte("\x01\x01a\x01"), nums(kind, 0, time, d[0], d[1], d[2])...)
		b = append(append(b, 0), nums(uint64(items))...)
		for range items {
			b = append(b, nums(kind/4, i[0], i[1], i[2], 0)...) // a log's item is of the time 1
		}
		b = append(b, nums(uint64(tombs))...)
		for range tombs {
			b = append(b, nums(tomb[0], tomb[1], tomb[2])...)
		}
		return append(b, 0)
	}
	good := func(b []byte) {
		t.Helper()
		if x, e := Read(b); e != api.OK || len(x) != 1 {
			t.Errorf("Read(%x) = %v, %d", b, x, e)
		}
	}
	bad := func(b []byte) {
		t.Helper()
		takes(t, "cut", append(bytes.Clone(b), 9), api.ErrForm, 1)
		refused(t, "cut", b, api.ErrForm)
	}
	none, d, other := [3]uint64{}, [3]uint64{2, 1, 3}, [3]uint64{3, 1, 1}
	for kind := range uint64(4) {
		good(lay(kind+1, none, none, none, 0, 0, 0))
		for _, n := range cuts(kind+1, 255) {
			bad(lay(n, none, none, none, 0, 0, 0))
		}
	}
	good(lay(2, d, none, none, 0, 0, 1))
	good(lay(3, none, d, other, 1, 1, 0))
	good(lay(4, none, d, none, 1, 0, 0))
	for part, most := range []uint64{255, 1<<32 - 1} {
		for kind := range uint64(4) {
			for _, n := range cuts(0, most) {
				x := none
				x[part] = n
				bad(lay(kind+1, x, none, none, 0, 0, 0))
			}
		}
		for _, n := range cuts(d[part], most) {
			x := d
			x[part] = n
			bad(lay(2, x, none, none, 0, 0, 1))
			bad(lay(3, none, x, other, 1, 1, 0))
			bad(lay(4, none, x, none, 1, 0, 0))
			bad(lay(3, none, other, x, 1, 1, 0))
		}
	}
}

// P9.1, P1: of a reader that has an error, that is not there, or was not made: no tree, and its error.
func TestTakeOfNoReader(t *testing.T) {
	r := code.NewReader(plainPut(right()[2]))
	r.Fail(api.ErrSum)
	if x := Take(r); x != nil || r.Err() != api.ErrSum || r.Left() != 14 {
		t.Error("of a reader with an error:", x, r.Err(), r.Left())
	}
	if x := Take(nil); x != nil {
		t.Error("of none:", x)
	}
	var none code.Reader
	if x := Take(&none); x != nil || none.Err() != api.ErrNil {
		t.Error("of one that was not made:", x, none.Err())
	}
}

// P9.2, What follows: of trees that may be, the bytes, which are the same just if the trees are.
func TestBytes(t *testing.T) {
	seen := map[string]int{}
	for i, x := range right() {
		b, e := Bytes(x)
		if e != api.OK || !bytes.Equal(b, plainPut(x)) {
			t.Errorf("Bytes(%v) = %x, %d", x, b, e)
		}
		if j, is := seen[string(b)]; is {
			t.Errorf("%v and %v have the same bytes", x, right()[j])
		}
		seen[string(b)] = i
	}
	// A list that is not there and an empty one are one.
	x := treeOf(api.Node{Name: "a", Leaves: []api.Leaf{{Type: api.Set, Items: []api.Item{}, Tombs: []api.Dot{}}}, Below: api.Tree{}})
	b, e := Bytes(x)
	if c, f := Bytes(treeOf(has("a", leaf.New(api.Set)))); e != api.OK || f != api.OK || !bytes.Equal(b, c) {
		t.Error(b, e, c, f)
	}
}

// P9.2: ErrArg, if the tree may not be.
func TestBytesWrong(t *testing.T) {
	round := treeOf(has("a", counter(1)))
	round[0].Below = round
	for _, x := range append(slices.Concat(wrong(), long(), deep()), round) {
		if b, e := Bytes(x); b != nil || e != api.ErrArg {
			t.Errorf("Bytes = %x, %d", b, e)
		}
	}
}

// refused checks that Read tells that error of the bytes, and no tree.
func refused(t *testing.T, name string, b []byte, want api.Errno) {
	t.Helper()
	if x, e := Read(b); x != nil || e != want {
		t.Errorf("%s: Read(%.60x) = %v, %d, want %d", name, b, x, e, want)
	}
}

// P9.2: each tree that may be is read again; none of its bytes may be missing, and none more be there.
func TestReadAgain(t *testing.T) {
	for _, x := range right() {
		b := plainPut(x)
		if got, e := Read(b); e != api.OK || !tree.Same(got, x) {
			t.Errorf("Read(%x) = %v, %d, want %v", b, got, e, x)
		}
		for n := range b {
			refused(t, "cut", b[:n], api.ErrShort)
		}
		for _, behind := range []string{"\x00", "\x80", strings.Repeat("\xFF", 11), string(b)} {
			refused(t, "more behind", append(bytes.Clone(b), behind...), api.ErrForm)
		}
	}
}

// P9.2: ErrForm of what may not be, ErrLong of what is too long; what the reader tells is told ahead of what is behind.
func TestReadWrong(t *testing.T) {
	for _, x := range append(wrong(), deep()...) {
		refused(t, "may not be", plainPut(x), api.ErrForm)
		refused(t, "may not be, and more behind", append(plainPut(x), 0), api.ErrForm)
	}
	for _, x := range long() {
		refused(t, "too long", plainPut(x), api.ErrLong)
		refused(t, "too long, and more behind", append(plainPut(x), 0), api.ErrLong)
	}
	refused(t, "nothing", nil, api.ErrShort)
	refused(t, "a number not canonical", []byte("\x80\x00"), api.ErrForm)
	refused(t, "a number beyond number", []byte(strings.Repeat("\xFF", 11)), api.ErrOver)
	refused(t, "a name too long, and more behind", []byte("\x01\x0Dabcdefghijklm\x00"), api.ErrLong)
	refused(t, "four deep, and short", []byte("\x01\x01a\x00\x01\x01b\x00\x01\x01c\x00\x01"), api.ErrForm)
}

// compared checks that Read and Take are as the document's words are.
func compared(t *testing.T, b []byte) {
	t.Helper()
	was := bytes.Clone(b)
	x, e := Read(b)
	if want, f := plainRead(b); e != f || !tree.Same(x, want) || e != api.OK && x != nil {
		t.Fatalf("Read(%x) = %v, %d, want %v, %d", b, x, e, want, f)
	}
	if again, f := Bytes(x); e == api.OK && (f != api.OK || !bytes.Equal(again, b)) {
		t.Fatalf("Read(%x) = %v, whose Bytes are %x, %d", b, x, again, f)
	}
	r := code.NewReader(b)
	x = Take(r)
	if want, left, f := plainTake(b); r.Err() != f || r.Left() != left || !tree.Same(x, want) || f != api.OK && x != nil {
		t.Fatalf("Take of %x tells %v, %d with %d left, want %v, %d with %d left", b, x, r.Err(), r.Left(), want, f, left)
	}
	if !bytes.Equal(b, was) {
		t.Fatalf("changed: %x", was)
	}
}

// P9.1, P9.2: of bytes that were changed here and there Read and Take are as the document's words are.
func TestChanged(t *testing.T) {
	r := rand.New(rand.NewSource(9))
	few := []byte{0, 1, 2, 3, 4, 5, 12, 13, 15, 16, 40, 41, 'a', 'b', 0x7F, 0x80, 0xFF}
	for _, x := range anyTrees() {
		b := plainPut(x)
		for range 100 {
			c := bytes.Clone(b)
			for range 1 + r.Intn(3) {
				at := r.Intn(len(c))
				switch r.Intn(4) {
				case 0:
					c = slices.Insert(c, at, few[r.Intn(len(few))])
				case 1:
					c = slices.Delete(c, at, min(at+1+r.Intn(2), max(at, len(c)-1)))
				default:
					c[at] = few[r.Intn(len(few))]
				}
			}
			compared(t, c)
		}
	}
}

// cells tells where all elements of a list lie, its room's too.
func cells[T any](l []T) []any {
	var all []any
	for i := range l[:cap(l)] {
		all = append(all, &l[:cap(l)][i])
	}
	return all
}

// memory tells where all elements of all lists of a tree lie.
func memory(t api.Tree) []any {
	all := cells(t)
	for _, n := range t {
		all = slices.Concat(all, cells(n.Leaves), memory(n.Below))
		for _, l := range n.Leaves {
			all = slices.Concat(all, cells(l.Items), cells(l.Tombs))
		}
	}
	return all
}

// Rules: what is handed in is not changed and not kept, and what is told is in memory of its own, no two lists of it sharing any.
func TestOwnMemory(t *testing.T) {
	for i, x := range right() {
		b, _ := Bytes(x)
		other, _ := Bytes(x)
		clear(other[:cap(other)])
		if !bytes.Equal(b, plainPut(x)) || !tree.Same(x, right()[i]) {
			t.Errorf("Bytes of %v share memory, or it was changed", right()[i])
		}
		one, _ := Read(b)
		two, _ := Read(b)
		r := code.NewReader(b)
		three := Take(r)
		count := map[any]int{}
		for _, p := range slices.Concat(memory(one), memory(two), memory(three)) {
			if count[p]++; count[p] > 1 {
				t.Errorf("%v shares memory", x)
			}
		}
		clear(b)
		if !tree.Same(one, x) || !tree.Same(two, x) || !tree.Same(three, x) {
			t.Errorf("%v shares memory with its bytes", x)
		}
	}
	for i, x := range anyTrees() {
		Put(nil, x)
		Bytes(x)
		if !tree.Same(x, anyTrees()[i]) {
			t.Errorf("changed: %v", x)
		}
	}
}

// P1: great trees, and deep ones, are laid and taken soon.
func TestGreat(t *testing.T) {
	const n = 1 << 16
	l := []api.Leaf{leaf.New(api.Set), leaf.New(api.Log)}
	var wide, low api.Tree
	for i := range n {
		l[0].Items, l[0].Tombs = append(l[0].Items, in(at(0, 1, uint64(i)+1), "u")), append(l[0].Tombs, at(1, 1, uint64(i)+1))
		l[1].Items = append(l[1].Items, said(uint64(i)+1, at(0, 1, uint64(n-i)), "v"))
		wide = append(wide, has(strconv.Itoa(n+i), counter(int64(i))))
		low = treeOf(api.Node{Name: "a", Leaves: []api.Leaf{counter(1)}, Below: low})
	}
	x := treeOf(api.Node{Name: "a", Leaves: l, Below: treeOf(over("b", wide[n-n/4:]...))})
	b, e := Bytes(x)
	if y, f := Read(b); e != api.OK || f != api.OK || !tree.Same(x, y) || tree.Items(y) != 2+2*n+n/4 {
		t.Error(e, f)
	}
	b = Put([]byte("x"), low)
	if want := 1 + 13*n + 1; len(b) != want || string(b[1:15]) != "\x01\x01a\x01\x01\x02\x00\x00\x00\x00\x00\x00\x00\x01" || b[want-1] != 0 {
		t.Error(len(b))
	}
	refused(t, "deep", b[1:], api.ErrForm)
	if c, e := Bytes(low); c != nil || e != api.ErrArg {
		t.Error(e)
	}
}

// P9.1, P9.2, P1: of any bytes Read and Take are as the document's words are.
func FuzzRead(f *testing.F) {
	for _, x := range anyTrees() {
		f.Add(plainPut(x))
		f.Add(append(plainPut(x), 0))
	}
	f.Add([]byte("\x01\x01a\x00\x01\x01b\x00\x01\x01c\x00\x01"))
	f.Add([]byte("\x01\x01a\x01\x02\x00\x00\x80\x02\x00\x00\x00\x00\x00\x00"))
	f.Add([]byte(strings.Repeat("\xFF", 11)))
	f.Fuzz(func(t *testing.T, b []byte) { compared(t, b) })
}

// maker makes trees of bytes.
type maker struct{ b []byte }

// below takes a byte and tells a number below n.
func (m *maker) below(n int) int {
	if len(m.b) == 0 {
		return 0
	}
	x := m.b[0]
	m.b = m.b[1:]
	return int(x) % n
}

// few tells one of these numbers, mostly one of the first four.
func (m *maker) few(l ...uint64) uint64 {
	if m.below(24) == 23 {
		return l[m.below(len(l))]
	}
	return l[m.below(min(4, len(l)))]
}

func (m *maker) text() string {
	return []string{"u", "v", "", "\x80", "u", "v", "w", strings.Repeat("y", 40), strings.Repeat("y", 41)}[m.below(9-min(1, m.below(9)))]
}

func (m *maker) dot() api.Dot {
	return at(uint8(m.few(0, 1, 0, 15, 16, 255)), uint32(m.few(1, 2, 1, 4, 0, 5, 1<<32-1)), m.few(1, 2, 3, 1<<20, 0, 300, 1<<20+1, math.MaxUint64))
}

// leaf tells a leaf of a type, mostly one that may be.
func (m *maker) leaf(kind uint8) api.Leaf {
	l := leaf.New(kind)
	switch kind {
	case api.Counter:
		l.N = []int64{0, 1, -1, 300, math.MaxInt64, math.MinInt64}[m.below(6)]
	case api.Register:
		l.Time, l.Dot, l.Text = m.few(1, 2, 1<<40, 300, 0, 1<<40+1, math.MaxUint64), m.dot(), m.text()
	case api.Set, api.Log:
		for i := range m.below(4) {
			x := api.Item{Dot: one(uint64(10*i + m.below(12) + 1)), Text: m.text()}
			if kind == api.Log {
				x.Time = uint64(5*i + m.below(7))
			}
			l.Items = append(l.Items, x)
		}
		for i := range m.below(3) * int(1-kind/4) {
			l.Tombs = append(l.Tombs, at(0, 2, uint64(10*i+m.below(11)+1)))
		}
	}
	return l
}

// tree tells a tree at most so many names deep, mostly one that may be.
func (m *maker) tree(most int) api.Tree {
	var t api.Tree
	for i := range m.below(4) * min(1, most) {
		n := api.Node{Name: []string{"a", "b", "c"}[i]}
		if m.below(32) == 31 {
			n.Name = []string{"a", "", "-", "abcdefghijkl", "abcdefghijklm"}[m.below(5)]
		}
		for kind := range uint8(4) {
			if m.below(3) == 0 {
				n.Leaves = append(n.Leaves, m.leaf(kind+1))
			}
		}
		if n.Below = m.tree(most - 1); len(n.Leaves)+len(n.Below) > 0 || m.below(8) == 7 {
			t = append(t, n)
		}
	}
	return t
}

// P9.1, P9.2, What follows: of trees that bytes make.
func FuzzTrees(f *testing.F) {
	r := rand.New(rand.NewSource(9))
	for range 3000 {
		b := make([]byte, r.Intn(200))
		r.Read(b)
		f.Add(b)
	}
	f.Fuzz(func(t *testing.T, b []byte) {
		m := &maker{b}
		x, y := m.tree(3+m.below(16)/15), m.tree(1)
		p := Put([]byte("b"), x)
		if string(p) != "b"+string(plainPut(x)) {
			t.Fatalf("Put(%v) = %x", x, p)
		}
		compared(t, p[1:])
		c, e := Bytes(x)
		if tree.May(x) != (e == api.OK) || e == api.OK && !bytes.Equal(c, p[1:]) || e != api.OK && (c != nil || e != api.ErrArg) {
			t.Fatalf("Bytes(%v) = %x, %d", x, c, e)
		}
		if z, f := Read(c); e == api.OK && (f != api.OK || !tree.Same(z, x)) {
			t.Fatalf("Read(%x) = %v, %d", c, z, f)
		}
		if d, f := Bytes(y); e == api.OK && f == api.OK && bytes.Equal(c, d) != tree.Same(x, y) {
			t.Fatalf("%v and %v have the bytes %x and %x", x, y, c, d)
		}
	})
}
