package fold

import (
	"math"
	"math/rand"
	"slices"
	"strings"
	"testing"

	"varve/api"
	"varve/op"
)

// at tells the dot of these numbers.
func at(rep uint8, inc uint32, seq uint64) api.Dot {
	return api.Dot{Actor: api.Actor{Rep: rep, Inc: inc}, Seq: seq}
}

// one tells the n-th dot of replica 0's first life.
func one(n uint64) api.Dot { return at(0, 1, n) }

// did tells an event of a dot, at a time, at a path.
func did(d api.Dot, time uint64, o api.Op, p ...string) api.Event {
	o.Path = p
	return api.Event{Dot: d, Time: time, Op: o}
}

func add(n int64) api.Op          { return api.Op{Kind: api.OpAdd, N: n} }
func text(s string) api.Op        { return api.Op{Kind: api.OpSet, Text: s} }
func put(s string) api.Op         { return api.Op{Kind: api.OpPut, Text: s} }
func drop(dots ...api.Dot) api.Op { return api.Op{Kind: api.OpDrop, Text: "u", Dots: dots} }
func say(s string) api.Op         { return api.Op{Kind: api.OpSay, Text: s} }

// same tells whether two lists have the same events, one by one.
func same(a, b []api.Event) bool {
	return slices.EqualFunc(a, b, func(x, y api.Event) bool {
		return x.Dot == y.Dot && x.Time == y.Time && op.Same(x.Op, y.Op)
	})
}

// plainAhead is the document's words for an event that is ahead of another one: by Time, then by its dot's Rep, Inc and Seq.
func plainAhead(x, y api.Event) bool {
	if x.Time != y.Time {
		return x.Time < y.Time
	}
	if x.Dot.Rep != y.Dot.Rep {
		return x.Dot.Rep < y.Dot.Rep
	}
	if x.Dot.Inc != y.Dot.Inc {
		return x.Dot.Inc < y.Dot.Inc
	}
	return x.Dot.Seq < y.Dot.Seq
}

// plainOrder is the document's words for Order: again and again the least one that is left, of those of the same Time and Dot the first one.
func plainOrder(l []api.Event) []api.Event {
	var all []api.Event
	for left := slices.Clone(l); len(left) > 0; {
		least := 0
		for i, e := range left {
			if plainAhead(e, left[least]) {
				least = i
			}
		}
		all = append(all, left[least])
		left = slices.Delete(left, least, least+1)
	}
	return all
}

// anyEvents tells events of many times and dots, those that may not be among them, in order: none is as another one.
func anyEvents() []api.Event {
	var all []api.Event
	for _, time := range []uint64{0, 1, 2, 255, 256, 1 << 32, 1 << 40, 1<<40 + 1, 1 << 63, math.MaxUint64} {
		for _, rep := range []uint8{0, 1, 15, 16, 127, 128, 255} {
			for _, inc := range []uint32{0, 1, 4, 5, 1 << 31, math.MaxUint32} {
				for _, seq := range []uint64{0, 1, 2, 1 << 20, 1<<20 + 1, 1 << 63, math.MaxUint64} {
					all = append(all, did(at(rep, inc, seq), time, add(int64(len(all)))))
				}
			}
		}
	}
	return all
}

// P10.1, P10.2: the document's examples.
func TestExamples(t *testing.T) {
	a, b := did(at(0, 1, 1), 2, add(1), "a"), did(at(1, 1, 1), 1, add(2), "a")
	if l := Order([]api.Event{a, b}); !same(l, []api.Event{b, a}) {
		t.Error(l)
	}
	a, b = did(at(1, 1, 1), 1, add(1), "a"), did(at(0, 1, 1), 1, add(2), "a")
	if l := Order([]api.Event{a, b}); !same(l, []api.Event{b, a}) {
		t.Error(l)
	}
}

// P10.1: of no events none.
func TestOrderNone(t *testing.T) {
	for _, l := range [][]api.Event{nil, {}} {
		if got := Order(l); len(got) != 0 {
			t.Error(got)
		}
	}
	e := did(one(1), 1, put("u"), "a", "b")
	if got := Order([]api.Event{e}); !same(got, []api.Event{e}) {
		t.Error(got)
	}
}

// P10.1: Time goes ahead of the dot, a dot's Rep ahead of its Inc, that ahead of its Seq: of each two events.
func TestOrderTwo(t *testing.T) {
	all := anyEvents()
	for i := 0; i < len(all); i += 7 {
		for j := i + 1; j < len(all); j += 11 {
			want := []api.Event{all[i], all[j]}
			if got := Order([]api.Event{all[i], all[j]}); !same(got, want) {
				t.Fatalf("%v as %v", want, got)
			}
			if got := Order([]api.Event{all[j], all[i]}); !same(got, want) {
				t.Fatalf("%v as %v", want, got)
			}
		}
	}
}

// P10.1: of any events, however they stand.
func TestOrderMany(t *testing.T) {
	want := anyEvents()
	l := slices.Clone(want)
	if got := Order(l); !same(got, want) {
		t.Error("events in order are told in another one")
	}
	slices.Reverse(l)
	if got := Order(l); !same(got, want) {
		t.Error("events the other way round")
	}
	r := rand.New(rand.NewSource(3))
	for range 20 {
		r.Shuffle(len(l), func(i, j int) { l[i], l[j] = l[j], l[i] })
		if got := Order(l); !same(got, want) {
			t.Fatal("events that are shuffled")
		}
	}
}

// P10.1: those of the same Time and Dot stay as they stood, whatever else they are.
func TestOrderStays(t *testing.T) {
	r := rand.New(rand.NewSource(4))
	for n := range 300 {
		var l, want []api.Event
		for i := range n {
			l = append(l, did(one(uint64(r.Intn(3))), uint64(r.Intn(3)), add(int64(i)), "a"))
		}
		for time := range uint64(3) {
			for seq := range uint64(3) {
				for _, e := range l {
					if e.Time == time && e.Dot.Seq == seq {
						want = append(want, e)
					}
				}
			}
		}
		if got := Order(l); !same(got, want) {
			t.Fatalf("%v as %v", l, got)
		}
	}
	// The operations are not asked: neither Kind nor Path, N, Text nor Dots puts one ahead.
	l := []api.Event{
		did(one(1), 1, say("v"), "b"), did(one(1), 1, drop(one(2), one(3)), "b", "a"), did(one(1), 1, add(5)), did(one(1), 1, text("u"), "a"),
		did(one(1), 1, drop(one(2)), "a"), did(one(1), 1, add(-5), "c"), did(one(1), 1, say("u"), "a"), did(one(1), 1, api.Op{}),
	}
	for range l {
		if got := Order(l); !same(got, l) {
			t.Errorf("%v as %v", l, got)
		}
		l = append(l[1:], l[0])
	}
}

// P10.1: an event is told whole, one that may not be, too.
func TestOrderWhole(t *testing.T) {
	strange := api.Op{Kind: 255, Path: []string{"", "-", "a", "b", strings.Repeat("y", 50)}, N: math.MinInt64, Text: strings.Repeat("\xFF", 50), Dots: []api.Dot{one(2), one(1), {}, at(255, 0, math.MaxUint64)}}
	l := []api.Event{{Dot: one(5), Time: 1, Op: strange}, did(one(3), 1, drop(one(1), one(2)), "a", "b", "c"), {}, {Dot: at(255, 9, 0), Op: strange}}
	want := []api.Event{l[2], l[3], l[1], l[0]}
	if got := Order(l); !same(got, want) {
		t.Error(got)
	}
}

// roomy tells the list with room behind it, which must stay as it is.
func roomy[T any](l []T, mark T) []T {
	all := append(slices.Clone(l), mark, mark)
	return all[:len(l)]
}

func markEvent() api.Event { return did(one(99), 99, add(99)) }

// handedEvents tells a copy of events whose lists, even empty ones, have room behind them.
func handedEvents(l []api.Event) []api.Event {
	h := roomy(l, markEvent())
	for i, e := range h {
		h[i].Op.Path, h[i].Op.Dots = roomy(e.Op.Path, "mark"), roomy(e.Op.Dots, one(99))
	}
	return h
}

// isRoom tells whether the room behind a list is as it was handed in.
func isRoom[T any](l []T, is func(T) bool) bool {
	room := l[len(l) : len(l)+2]
	return is(room[0]) && is(room[1])
}

// wholeEvents tells whether the room behind all lists of events that were handed in is as it was.
func wholeEvents(h []api.Event) bool {
	ok := isRoom(h, func(e api.Event) bool { return same([]api.Event{e}, []api.Event{markEvent()}) })
	for _, e := range h {
		ok = ok && isRoom(e.Op.Path, func(s string) bool { return s == "mark" }) && isRoom(e.Op.Dots, func(d api.Dot) bool { return d == one(99) })
	}
	return ok
}

// cells tells where all elements of a list lie, its room's too.
func cells[T any](l []T) []any {
	var all []any
	for i := range l[:cap(l)] {
		all = append(all, &l[:cap(l)][i])
	}
	return all
}

// memoryOfEvents tells where all elements of all lists of events lie.
func memoryOfEvents(l []api.Event) []any {
	all := cells(l)
	for _, e := range l {
		all = slices.Concat(all, cells(e.Op.Path), cells(e.Op.Dots))
	}
	return all
}

// isOwn tells whether what is told lies nowhere twice, and nowhere where what was handed in lies.
func isOwn(told []any, handed ...[]any) bool {
	count := map[any]int{}
	for _, p := range slices.Concat(append(handed, told)...) {
		count[p]++
	}
	for _, p := range told {
		if count[p] > 1 {
			return false
		}
	}
	return true
}

// Rules: what is handed in is not changed, neither in it nor in the room behind it; what is told has memory of its own, and no two lists of it share any.
func TestOrderOwnMemory(t *testing.T) {
	l := []api.Event{
		did(one(3), 3, drop(one(1), one(2)), "a", "b", "c"), did(one(2), 5, add(1), "a"), {}, did(one(1), 1, put("u")),
		did(one(3), 3, drop(one(4)), "a"), did(at(255, 0, 0), 0, drop(one(2), one(1)), "", "-"),
	}
	h := handedEvents(l)
	got := Order(h)
	if !isOwn(memoryOfEvents(got), memoryOfEvents(h)) {
		t.Error("it is not its own")
	}
	if !same(h, l) || !wholeEvents(h) {
		t.Error("changed:", h)
	}
	// Events that share their lists are told with lists that do not.
	shared := slices.Repeat(handedEvents(l[:1]), 5)
	got = Order(shared)
	if !isOwn(memoryOfEvents(got), memoryOfEvents(shared[:1])) || !same(got, shared) {
		t.Error("lists are shared:", got)
	}
	// What is told stays, whatever becomes of what was handed in.
	got = Order(h)
	want := plainOrder(l)
	for i := range h {
		clear(h[i].Op.Path)
		clear(h[i].Op.Dots)
	}
	clear(h)
	if !same(got, want) {
		t.Error("it is kept:", got)
	}
}

// P1: great lists end soon, too, however they stand; so do events of long lists.
func TestOrderGreat(t *testing.T) {
	const n = 1 << 18
	up, down, alike := make([]api.Event, n), make([]api.Event, n), make([]api.Event, n)
	for i := range n {
		up[i], down[i], alike[i] = did(one(uint64(i)), uint64(i/3), add(1)), did(one(uint64(n-1-i)), uint64((n-1-i)/3), add(1)), did(one(1), 1, add(int64(i)))
	}
	if !same(Order(up), up) || !same(Order(down), up) || !same(Order(alike), alike) {
		t.Error("great lists are told in another order")
	}
	long := did(one(1), 1, drop(slices.Repeat([]api.Dot{one(1)}, n)...), slices.Repeat([]string{"a"}, n)...)
	if got := Order([]api.Event{long, {}}); !same(got, []api.Event{{}, long}) {
		t.Error("long lists are told as others")
	}
}
