package commit

import (
	"math"
	"math/rand"
	"slices"
	"strings"
	"testing"

	"varve/api"
	"varve/op"
)

// at tells the dot of these numbers.
func at(rep uint8, inc uint32, seq uint64) api.Dot {
	return api.Dot{Actor: api.Actor{Rep: rep, Inc: inc}, Seq: seq}
}

// one tells the n-th dot of replica 0's first life.
func one(n uint64) api.Dot { return at(0, 1, n) }

func dotsIn(l ...api.Dot) []api.Dot { return l }

func add(n int64) api.Op { return api.Op{Kind: api.OpAdd, Path: []string{"a"}, N: n} }

func put(s string) api.Op { return api.Op{Kind: api.OpPut, Path: []string{"a"}, Text: s} }

func drop(l ...api.Dot) api.Op {
	return api.Op{Kind: api.OpDrop, Path: []string{"a"}, Text: "x", Dots: l}
}

// actors tells a dot of each actor that may be, with that Seq, rising.
func actors(seq uint64) []api.Dot {
	var l []api.Dot
	for n := range 64 {
		l = append(l, at(uint8(n/4), uint32(n%4+1), seq))
	}
	return l
}

// plainDot is the document's words for a dot that may be.
func plainDot(d api.Dot) bool {
	return d.Rep <= 15 && d.Inc >= 1 && d.Inc <= 4 && d.Seq >= 1 && d.Seq <= 1<<20
}

// plainPlace tells a dot's place among all that may be.
func plainPlace(d api.Dot) uint64 { return (uint64(d.Rep)*8+uint64(d.Inc))<<32 + d.Seq }

// plainNumbers is the document's words for what a vector stands for.
func plainNumbers(v api.Vector) map[api.Actor]uint64 {
	n := map[api.Actor]uint64{}
	for _, d := range v {
		if plainDot(d) && d.Seq > n[d.Actor] {
			n[d.Actor] = d.Seq
		}
	}
	return n
}

// plainCanon is the document's words for whether a vector is its canonical form.
func plainCanon(v api.Vector) bool {
	for i, d := range v {
		if !plainDot(d) || i > 0 && plainPlace(v[i-1])>>32 >= plainPlace(d)>>32 {
			return false
		}
	}
	return true
}

// plainMay is the document's words for a commit that may be.
func plainMay(c api.Commit) bool {
	if !op.MayEvent(api.Event{Dot: c.Dot, Time: c.Time, Op: c.Op}) || !plainCanon(c.VV) {
		return false
	}
	n := plainNumbers(c.VV)
	if n[c.Dot.Actor] != c.Dot.Seq || len(c.Parents) > 64 {
		return false
	}
	for i, p := range c.Parents {
		if !plainDot(p) || p.Seq > n[p.Actor] || p == c.Dot || i > 0 && plainPlace(c.Parents[i-1]) >= plainPlace(p) {
			return false
		}
	}
	for _, d := range c.Op.Dots {
		if d.Seq > n[d.Actor] || d == c.Dot {
			return false
		}
	}
	return true
}

// plainSame is the document's words for two commits that are the same.
func plainSame(a, b api.Commit) bool {
	x, y := plainNumbers(a.VV), plainNumbers(b.VV)
	for _, d := range slices.Concat(a.VV, b.VV) {
		if x[d.Actor] != y[d.Actor] {
			return false
		}
	}
	return a.Dot == b.Dot && slices.Equal(a.Parents, b.Parents) && a.Time == b.Time && op.Same(a.Op, b.Op)
}

// just tells whether two commits are the same to the letter, dot by dot of their vectors, too.
func just(a, b api.Commit) bool { return plainSame(a, b) && slices.Equal(a.VV, b.VV) }

func isZero(c api.Commit) bool {
	o := c.Op
	return c.Dot == api.Dot{} && c.Parents == nil && c.VV == nil && c.Time == 0 && o.Kind == 0 && o.Path == nil && o.N == 0 && o.Text == "" && o.Dots == nil
}

// good tells a commit that may be, with something in each of its parts.
func good() api.Commit {
	return api.Commit{
		Dot:     at(1, 2, 5),
		Parents: dotsIn(one(3), one(7), at(1, 1, 2), at(1, 2, 4)),
		VV:      dotsIn(one(7), at(1, 1, 2), at(1, 2, 5), at(15, 4, 1<<20)),
		Time:    300,
		Op:      api.Op{Kind: api.OpDrop, Path: []string{"a", "bc"}, Text: "xy", Dots: dotsIn(one(1), at(1, 2, 4), at(15, 4, 1<<20))},
	}
}

// but tells the good commit, changed.
func but(change func(c *api.Commit)) api.Commit {
	c := good()
	change(&c)
	return c
}

// drops tells Dots of an OpDrop, as many as may be.
func drops() []api.Dot { return actors(7) }

// right tells commits that may be, of all kinds and edges.
func right() []api.Commit {
	full := api.Commit{Dot: at(9, 3, 1<<20), VV: actors(1 << 20), Time: 1 << 40, Op: drop(drops()...)}
	all := full
	all.Parents = actors(1<<20 - 1)
	near := full
	for n := range 64 {
		near.Parents = append(near.Parents, at(9, 3, 1<<20-uint64(64-n)))
	}
	l := []api.Commit{
		good(), full, all, near,
		{Dot: one(1), VV: dotsIn(one(1)), Time: 1, Op: add(5)},
		{Dot: one(1), Parents: dotsIn(), VV: dotsIn(one(1)), Time: 1, Op: api.Op{Kind: api.OpDrop, Path: []string{"a"}, Dots: dotsIn()}},
		{Dot: one(2), Parents: dotsIn(one(1)), VV: dotsIn(one(2)), Time: 2, Op: drop(one(1))},
		{Dot: one(300), Parents: dotsIn(one(1), one(2), one(299)), VV: dotsIn(one(300)), Time: 1, Op: put(strings.Repeat("\xFF", 40))},
		{Dot: at(0, 2, 1), Parents: dotsIn(one(9)), VV: dotsIn(one(9), at(0, 2, 1)), Time: 7, Op: drop(one(1), one(9))},
		{Dot: at(3, 1, 1), Parents: dotsIn(at(15, 4, 1)), VV: dotsIn(at(3, 1, 1), at(15, 4, 1)), Time: 7, Op: api.Op{Kind: api.OpSay, Path: []string{"a", "b", "abcdefghijkl"}}},
		{Dot: at(15, 4, 1<<20), VV: dotsIn(at(15, 4, 1<<20)), Time: 1 << 40, Op: api.Op{Kind: api.OpSet, Path: []string{"Z"}, Text: "u"}},
	}
	for _, n := range []int64{0, -1, 1000000, -1000000} {
		l = append(l, api.Commit{Dot: one(1), VV: dotsIn(one(1), at(1, 1, 1)), Time: 127, Op: add(n)})
	}
	return l
}

// wrongDots tells dots that may not be.
func wrongDots() []api.Dot {
	return []api.Dot{
		{}, at(16, 1, 1), at(255, 1, 1), at(0, 0, 1), at(0, 5, 1), at(0, math.MaxUint32, 1), one(0), one(1<<20 + 1), one(math.MaxUint64),
	}
}

// with tells rising dots with one more in its place among them.
func with(l []api.Dot, d api.Dot) []api.Dot {
	numbers := func(d api.Dot) []uint64 { return []uint64{uint64(d.Rep), uint64(d.Inc), d.Seq} }
	i := 0
	for i < len(l) && slices.Compare(numbers(l[i]), numbers(d)) < 0 {
		i++
	}
	return slices.Insert(slices.Clone(l), i, d)
}

// wrong tells commits that may not be, each of one fault.
func wrong() []api.Commit {
	l := []api.Commit{
		// The event.
		{},
		but(func(c *api.Commit) { c.Time = 0 }),
		but(func(c *api.Commit) { c.Time = 1<<40 + 1 }),
		but(func(c *api.Commit) { c.Op.Kind = 6 }),
		but(func(c *api.Commit) { c.Op.Kind = api.OpPut }),
		but(func(c *api.Commit) { c.Op.Path = nil }),
		but(func(c *api.Commit) { c.Op.Path = []string{"a", "-"} }),
		but(func(c *api.Commit) { c.Op.N = 1 }),
		but(func(c *api.Commit) { c.Op.Text = strings.Repeat("y", 41) }),
		but(func(c *api.Commit) { c.Op.Dots = dotsIn(at(1, 2, 4), one(1)) }),
		but(func(c *api.Commit) { c.Op.Dots = dotsIn(one(1), one(1)) }),
		// VV is not canonical.
		but(func(c *api.Commit) { c.VV = dotsIn(c.VV[1], c.VV[0], c.VV[2], c.VV[3]) }),
		but(func(c *api.Commit) { c.VV = dotsIn(c.VV[3], c.VV[2], c.VV[1], c.VV[0]) }),
		but(func(c *api.Commit) { c.VV = append(c.VV, c.VV[3]) }),
		but(func(c *api.Commit) { c.VV = append(dotsIn(one(6)), c.VV...) }),
		but(func(c *api.Commit) { c.VV = append(dotsIn(one(7)), c.VV...) }),
		but(func(c *api.Commit) { c.VV = append(c.VV, at(16, 1, 1)) }),
		but(func(c *api.Commit) { c.VV = append(dotsIn(at(0, 0, 1)), c.VV...) }),
		// VV tells something else of its actor.
		but(func(c *api.Commit) { c.VV[2].Seq = 6 }),
		but(func(c *api.Commit) { c.VV[2].Seq = 4 }),
		but(func(c *api.Commit) { c.VV = slices.Delete(c.VV, 2, 3); c.Parents, c.Op.Dots = nil, nil }),
		but(func(c *api.Commit) { c.VV, c.Parents, c.Op.Dots = nil, nil, nil }),
		but(func(c *api.Commit) { c.Dot.Seq = 6 }),
		but(func(c *api.Commit) { c.Dot.Seq = 1; c.Parents, c.Op.Dots = nil, nil }),
		but(func(c *api.Commit) { c.Dot.Rep = 2 }),
		but(func(c *api.Commit) { c.Dot.Inc = 3 }),
		but(func(c *api.Commit) { c.Dot = at(2, 1, 1) }),
		// Parents fall, or one is there twice.
		but(func(c *api.Commit) { c.Parents = dotsIn(one(7), one(3)) }),
		but(func(c *api.Commit) { c.Parents = dotsIn(one(3), one(3)) }),
		but(func(c *api.Commit) { c.Parents = dotsIn(one(3), at(1, 1, 2), at(1, 1, 2)) }),
		but(func(c *api.Commit) { c.Parents = dotsIn(at(1, 2, 1), at(1, 1, 2)) }),
		but(func(c *api.Commit) { c.Parents = dotsIn(at(1, 1, 1), one(7)) }),
		but(func(c *api.Commit) { c.Parents = dotsIn(one(1), one(3), one(2)) }),
		// Its own dot, as a parent or dropped.
		but(func(c *api.Commit) { c.Parents = dotsIn(c.Dot) }),
		but(func(c *api.Commit) { c.Parents = with(c.Parents, c.Dot) }),
		but(func(c *api.Commit) { c.Op.Dots = dotsIn(c.Dot) }),
		but(func(c *api.Commit) { c.Op.Dots = with(c.Op.Dots, c.Dot) }),
	}
	// Dots that aren't within VV, and dots that may not be.
	for _, d := range append(wrongDots(), one(8), one(1<<20), at(0, 2, 1), at(1, 1, 3), at(1, 2, 6), at(2, 1, 1), at(15, 3, 1)) {
		l = append(l,
			but(func(c *api.Commit) { c.Parents = dotsIn(d) }),
			but(func(c *api.Commit) { c.Parents = with(c.Parents, d) }),
			but(func(c *api.Commit) { c.Op.Dots = dotsIn(d) }),
			but(func(c *api.Commit) { c.Op.Dots = with(c.Op.Dots, d) }))
	}
	for _, d := range wrongDots() {
		l = append(l,
			but(func(c *api.Commit) { c.Dot = d }),
			but(func(c *api.Commit) { c.Dot, c.VV = d, with(c.VV, d) }),
			but(func(c *api.Commit) { c.VV = with(c.VV, d) }),
			api.Commit{Dot: d, VV: dotsIn(d), Time: 1, Op: add(1)})
	}
	return append(l, crowded()...)
}

// crowded tells commits with one dot more than may be, in each of their lists.
func crowded() []api.Commit {
	parents, drops, vv := right()[1], right()[1], right()[1]
	parents.Parents = with(actors(1<<20-1), one(1))
	drops.Op.Dots = with(drops.Op.Dots, one(1))
	vv.VV = append(vv.VV, at(16, 1, 1))
	return []api.Commit{parents, drops, vv}
}

// P11.1: what may be, what not.
func TestMay(t *testing.T) {
	for i, c := range right() {
		if !May(c) || !plainMay(c) {
			t.Errorf("%d may be: %v", i, c)
		}
	}
	for i, c := range wrong() {
		if May(c) || plainMay(c) {
			t.Errorf("%d may not be: %v", i, c)
		}
	}
}

// P11.1: the document's examples.
func TestExamples(t *testing.T) {
	c := api.Commit{Dot: one(1), VV: dotsIn(one(1)), Time: 1, Op: add(5)}
	if !May(c) {
		t.Error("dot 0 1 1, VV of it, Time 1, OpAdd a 5")
	}
	c.Parents = dotsIn(one(1))
	if May(c) {
		t.Error("the same, with its own dot as a parent")
	}
}

// P11.1: a parent, and a dropped dot, is any dot within VV: of any Seq that is at most its actor's, of the commit's own actor too.
func TestMayWithin(t *testing.T) {
	v := dotsIn(one(3), at(1, 1, 2), at(2, 2, 4))
	for rep := range uint8(4) {
		for inc := range uint32(4) {
			for seq := range uint64(6) {
				d := at(rep, inc, seq)
				within := seq > 0 && (rep == 0 && inc == 1 && seq <= 3 || rep == 1 && inc == 1 && seq <= 1 || rep == 2 && inc == 2 && seq <= 4)
				c := api.Commit{Dot: at(1, 1, 2), VV: v, Time: 1, Op: drop()}
				c.Parents = dotsIn(d)
				if May(c) != within {
					t.Error("parent", d, !within)
				}
				c.Parents, c.Op = nil, drop(d)
				if May(c) != within {
					t.Error("dropped", d, !within)
				}
			}
		}
	}
}

// P11.1: at most 64 Parents.
func TestMayParents(t *testing.T) {
	for n := range uint64(130) {
		c := api.Commit{Dot: one(n + 1), VV: dotsIn(one(n + 1)), Time: 1, Op: add(1)}
		for i := range n {
			c.Parents = append(c.Parents, one(i+1))
		}
		if May(c) != (n <= 64) {
			t.Error(n)
		}
	}
}

// P11.1: of each list, each two and three dots: rising, none twice.
func TestMayRising(t *testing.T) {
	some := []api.Dot{one(1), one(2), at(0, 2, 1), at(0, 2, 2), at(1, 1, 1), at(1, 1, 2), at(1, 2, 1)}
	c := api.Commit{Dot: at(2, 1, 1), VV: dotsIn(one(2), at(0, 2, 2), at(1, 1, 2), at(1, 2, 1), at(2, 1, 1)), Time: 1}
	for i, x := range some {
		for j, y := range some {
			for k, z := range some {
				c.Parents, c.Op = dotsIn(x, y, z), add(1)
				if May(c) != (i < j && j < k) {
					t.Error("parents", x, y, z)
				}
				c.Parents, c.Op = nil, drop(x, y, z)
				if May(c) != (i < j && j < k) {
					t.Error("dropped", x, y, z)
				}
			}
			c.Parents, c.Op = dotsIn(x, y), add(1)
			if May(c) != (i < j) {
				t.Error("parents", x, y)
			}
		}
	}
}

// P11.1, Rules: lists that are not there and empty ones are one.
func TestEmptyLists(t *testing.T) {
	a := api.Commit{Dot: one(1), VV: dotsIn(one(1)), Time: 1, Op: add(1)}
	b := a
	b.Parents, b.Op.Dots = dotsIn(), dotsIn()
	if !May(a) || !May(b) || !Same(a, b) || !Same(b, a) || !Same(api.Commit{}, api.Commit{Parents: dotsIn(), VV: dotsIn(), Op: api.Op{Path: []string{}, Dots: dotsIn()}}) {
		t.Error("they differ")
	}
}

// unlike tells the good commit, each time with one thing of it changed.
func unlike() []api.Commit {
	return []api.Commit{
		but(func(c *api.Commit) { c.Dot.Rep = 2 }),
		but(func(c *api.Commit) { c.Dot.Inc = 1 }),
		but(func(c *api.Commit) { c.Dot.Seq = 4 }),
		but(func(c *api.Commit) { c.Parents = nil }),
		but(func(c *api.Commit) { c.Parents = c.Parents[:3] }),
		but(func(c *api.Commit) { c.Parents = c.Parents[1:] }),
		but(func(c *api.Commit) { c.Parents[0].Rep = 1 }),
		but(func(c *api.Commit) { c.Parents[1].Inc = 2 }),
		but(func(c *api.Commit) { c.Parents[3].Seq = 3 }),
		but(func(c *api.Commit) { c.Parents[0], c.Parents[1] = c.Parents[1], c.Parents[0] }),
		but(func(c *api.Commit) { c.Parents = append(c.Parents, c.Parents[3]) }),
		but(func(c *api.Commit) { c.Parents[1] = c.Parents[0] }),
		but(func(c *api.Commit) { c.Parents, c.VV = c.VV, c.Parents }),
		but(func(c *api.Commit) { c.VV = nil }),
		but(func(c *api.Commit) { c.VV = c.VV[:3] }),
		but(func(c *api.Commit) { c.VV = c.VV[1:] }),
		but(func(c *api.Commit) { c.VV[0].Seq = 8 }),
		but(func(c *api.Commit) { c.VV[0].Inc = 3 }),
		but(func(c *api.Commit) { c.VV[3].Rep = 14 }),
		but(func(c *api.Commit) { c.VV[3].Rep = 16 }),
		but(func(c *api.Commit) { c.VV = append(c.VV, at(2, 1, 1)) }),
		but(func(c *api.Commit) { c.Time = 301 }),
		but(func(c *api.Commit) { c.Time = 300 + 1<<32 }),
		but(func(c *api.Commit) { c.Op.Kind = api.OpPut }),
		but(func(c *api.Commit) { c.Op.Path = []string{"a", "bd"} }),
		but(func(c *api.Commit) { c.Op.Path = []string{"a", "bc", "d"} }),
		but(func(c *api.Commit) { c.Op.Path = []string{"a"} }),
		but(func(c *api.Commit) { c.Op.N = 1 }),
		but(func(c *api.Commit) { c.Op.Text = "xz" }),
		but(func(c *api.Commit) { c.Op.Dots = nil }),
		but(func(c *api.Commit) { c.Op.Dots[0].Seq = 2 }),
		but(func(c *api.Commit) { c.Op.Dots = c.Op.Dots[:2] }),
		{},
	}
}

// P11.1: a commit is the same as itself alone, whether it may be or not.
func TestSame(t *testing.T) {
	for i, c := range unlike() {
		if Same(c, good()) || Same(good(), c) {
			t.Errorf("%d is the same: %v", i, c)
		}
	}
	x, y := slices.Concat(right(), unlike(), wrong()), slices.Concat(right(), unlike(), wrong())
	for i, a := range x {
		if !Same(a, y[i]) {
			t.Errorf("%d is not itself: %v", i, a)
		}
		for _, b := range y {
			if Same(a, b) != plainSame(a, b) {
				t.Errorf("%v, %v: %v", a, b, Same(a, b))
			}
		}
	}
}

// P11.1, Rules: vectors that stand for the same numbers are one.
func TestSameVectors(t *testing.T) {
	for i, c := range []api.Commit{
		but(func(c *api.Commit) { slices.Reverse(c.VV) }),
		but(func(c *api.Commit) { c.VV = append(c.VV, c.VV...) }),
		but(func(c *api.Commit) { c.VV = append(c.VV, one(6), at(15, 4, 1)) }),
		but(func(c *api.Commit) { c.VV = append(wrongDots(), c.VV...) }),
	} {
		if !Same(c, good()) || !Same(good(), c) || May(c) {
			t.Errorf("%d is another one: %v", i, c)
		}
	}
}

// P11.1: its dot, its time, its operation, of any commit.
func TestEvent(t *testing.T) {
	e := Event(good())
	if e.Dot != at(1, 2, 5) || e.Time != 300 || !op.Same(e.Op, good().Op) {
		t.Error(e)
	}
	for _, c := range slices.Concat(right(), unlike(), wrong()) {
		if e := Event(c); e.Dot != c.Dot || e.Time != c.Time || !op.Same(e.Op, c.Op) {
			t.Errorf("Event(%v) = %v", c, e)
		}
	}
	for _, c := range right() {
		if !op.MayEvent(Event(c)) {
			t.Errorf("%v may not be", Event(c))
		}
	}
}

// roomy tells a copy of a list, even of an empty one, with room behind it that is marked.
func roomy[T any](l []T, mark T) []T {
	return append(slices.Clip(slices.Clone(l)), mark, mark)[:len(l)]
}

// isRoom tells whether the room behind a list is as it was marked.
func isRoom[T any](l []T, is func(T) bool) bool {
	for _, x := range l[len(l) : len(l)+2] {
		if !is(x) {
			return false
		}
	}
	return true
}

// handed tells a copy of a commit whose lists have room behind them.
func handed(c api.Commit) api.Commit {
	mark := one(99)
	c.Parents, c.VV, c.Op.Dots = roomy(c.Parents, mark), roomy(c.VV, mark), roomy(c.Op.Dots, mark)
	c.Op.Path = roomy(c.Op.Path, "mark")
	return c
}

// whole tells whether a commit that was handed in is as it was, and so is the room behind its lists.
func whole(h, c api.Commit) bool {
	is := func(d api.Dot) bool { return d == one(99) }
	return just(h, c) && isRoom(h.Parents, is) && isRoom(h.VV, is) && isRoom(h.Op.Dots, is) && isRoom(h.Op.Path, func(s string) bool { return s == "mark" })
}

// cells tells where a list's elements lie, also those of its room.
func cells[T any](l []T) []any {
	var all []any
	for i := range l[:cap(l)] {
		all = append(all, &l[:cap(l)][i])
	}
	return all
}

// memory tells where all elements of all lists of a commit lie.
func memory(c api.Commit) []any {
	return slices.Concat(cells(c.Parents), cells(c.VV), cells(c.Op.Path), cells(c.Op.Dots))
}

// isOwn tells whether what is told lies nowhere twice, and nowhere where what was handed in lies.
func isOwn(told []any, handed ...[]any) bool {
	count := map[any]int{}
	for _, p := range slices.Concat(append(handed, told)...) {
		count[p]++
	}
	return !slices.ContainsFunc(told, func(p any) bool { return count[p] > 1 })
}

// Rules: what is handed in is not changed, neither in it nor in the room behind it; what is told has memory of its own.
func TestOwnMemory(t *testing.T) {
	for _, c := range slices.Concat(right(), wrong(), unlike()) {
		h := handed(c)
		e := Event(h)
		if !isOwn(slices.Concat(cells(e.Op.Path), cells(e.Op.Dots)), memory(h)) {
			t.Error("an event that is not its own", e)
		}
		May(h)
		Same(h, h)
		if Put(nil, h); !whole(h, c) {
			t.Errorf("%v was %v", h, c)
		}
		if _, e := Bytes(h); !whole(h, c) {
			t.Errorf("%v was %v, %d", h, c, e)
		}
	}
}

// P1: great commits, and how soon that ends.
func TestGreat(t *testing.T) {
	const n = 1 << 20
	var l []api.Dot
	for i := range uint64(n) {
		l = append(l, one(i+1))
	}
	c := api.Commit{Dot: one(n), VV: l, Parents: l, Time: 1, Op: drop(l...)}
	c.Op.Path, c.Op.Text = slices.Repeat([]string{"a"}, n), strings.Repeat("y", n)
	few := api.Commit{Dot: one(n), VV: dotsIn(one(n)), Time: 1, Op: add(1)}
	vector, parents, drops := few, few, few
	vector.VV, parents.Parents, drops.Op = l, l[:n-1], drop(l[:n-1]...)
	for i, g := range []api.Commit{c, vector, parents, drops} {
		if b, e := Bytes(g); May(g) || b != nil || e != api.ErrArg {
			t.Error(i, len(b), e)
		}
		if len(Put(nil, g)) < n || !Same(g, g) {
			t.Error(i)
		}
		if b, e := Read(Put(nil, g)); e != api.ErrForm || !isZero(b) {
			t.Error(i, e)
		}
	}
	if !May(few) || !Same(few, vector) || Same(c, few) || len(Event(c).Op.Dots) != n {
		t.Error("of few")
	}
}

// maker makes commits of bytes.
type maker struct{ b []byte }

// below takes a byte and tells a number below n.
func (m *maker) below(n int) int {
	if len(m.b) == 0 {
		return 0
	}
	x := m.b[0]
	m.b = m.b[1:]
	return int(x) % n
}

// rare tells whether one of some hundred bytes is there.
func (m *maker) rare() bool { return m.below(120) == 119 }

// dot tells a dot of few, mostly one that may be.
func (m *maker) dot() api.Dot {
	if m.rare() {
		return at(uint8(m.below(256)), uint32(m.below(7)), uint64(m.below(256))<<13)
	}
	return at(uint8(m.below(3)), uint32(m.below(2)+1), uint64(m.below(4)+1))
}

// dots tells a list of dots, mostly of those that are within a vector, rising, without the commit's own one.
func (m *maker) dots(c api.Commit, most int) []api.Dot {
	var l []api.Dot
	for range m.below(most) {
		d := m.dot()
		if d.Seq = min(d.Seq, plainNumbers(c.VV)[d.Actor]); m.rare() {
			d = m.dot()
		}
		if d != c.Dot && d.Seq > 0 || m.rare() {
			l = with(l, d)
		}
	}
	if !m.rare() {
		l = slices.Compact(l)
	}
	if len(l) > 1 && m.rare() {
		i := m.below(len(l) - 1)
		l[i], l[i+1] = l[i+1], l[i]
	}
	return l
}

// vector tells a vector, mostly a canonical one that tells of a commit's actor its Seq.
func (m *maker) vector(d api.Dot) api.Vector {
	l := dotsIn(d)
	for range m.below(6) {
		if x := m.dot(); x.Actor != d.Actor && !slices.ContainsFunc(l, func(y api.Dot) bool { return x.Actor == y.Actor }) || m.rare() {
			l = with(l, x)
		}
	}
	if m.rare() {
		slices.Reverse(l)
	}
	return l
}

// commit tells a commit, mostly one that may be.
func (m *maker) commit() api.Commit {
	c := api.Commit{Dot: m.dot(), Time: uint64(m.below(256)) + 1}
	c.VV = m.vector(c.Dot)
	c.Parents = m.dots(c, 5)
	c.Op = []api.Op{add(int64(m.below(256)) - 100), put("u"), drop(), drop(m.dots(c, 5)...), {Kind: api.OpSay, Path: []string{"a", "b", "c"}, Text: "v"}}[m.below(5)]
	if m.rare() {
		c.Time = uint64(m.below(2)) << 41
	}
	if m.rare() {
		c.Op.Path = [][]string{nil, {"-"}, {"a", "b", "c", "d"}, {"abcdefghijklm"}}[m.below(4)]
	}
	return c
}

// seeds hands over bytes of which commits are made.
func seeds(n int, seed int64, each func([]byte)) {
	r := rand.New(rand.NewSource(seed))
	for range n {
		b := make([]byte, r.Intn(120))
		r.Read(b)
		each(b)
	}
}

// P1, P11.1, P11.2, P11.3: of commits that bytes make all calls are as the document's words are.
func FuzzCommits(f *testing.F) {
	seeds(6000, 3, func(b []byte) { f.Add(b) })
	f.Fuzz(func(t *testing.T, b []byte) {
		m := &maker{b}
		c, d := m.commit(), m.commit()
		if m.below(3) == 0 {
			d = handed(c)
		}
		if May(c) != plainMay(c) || Same(c, d) != plainSame(c, d) || Same(d, c) != Same(c, d) || !Same(c, c) {
			t.Fatal(May(c), Same(c, d), c, d)
		}
		if e := Event(c); e.Dot != c.Dot || e.Time != c.Time || !op.Same(e.Op, c.Op) {
			t.Fatal(e, c)
		}
		laid := Put([]byte("b"), c)
		if string(laid) != "b"+string(plainPut(c)) {
			t.Fatalf("Put(%v) = %x", c, laid)
		}
		compared(t, laid[1:])
		compared(t, append(laid[1:], plainPut(d)...))
		x, e := Bytes(c)
		if may := plainMay(c); may != (e == api.OK) || may && string(x) != string(laid[1:]) || !may && (x != nil || e != api.ErrArg) {
			t.Fatalf("Bytes(%v) = %x, %d", c, x, e)
		}
	})
}
