package op

import (
	"bytes"
	"encoding/binary"
	"math"
	"math/rand"
	"slices"
	"strings"
	"testing"

	"varve/api"
	"varve/code"
)

// nums tells the bytes of numbers, one behind the other.
func nums(ns ...uint64) []byte {
	var b []byte
	for _, n := range ns {
		b = binary.AppendUvarint(b, n)
	}
	return b
}

// plainPut is the document's words for an operation's bytes.
func plainPut(o api.Op) []byte {
	b := nums(uint64(o.Kind), uint64(len(o.Path)))
	for _, s := range o.Path {
		b = append(append(b, nums(uint64(len(s)))...), s...)
	}
	b = binary.AppendVarint(b, o.N)
	b = append(append(b, nums(uint64(len(o.Text)))...), o.Text...)
	b = append(b, nums(uint64(len(o.Dots)))...)
	for _, d := range o.Dots {
		b = append(b, nums(uint64(d.Rep), uint64(d.Inc), d.Seq)...)
	}
	return b
}

// plain takes bytes by the document's words: it panics with its first error.
type plain struct{ b []byte }

func (p *plain) num() uint64 {
	n, size := binary.Uvarint(p.b)
	switch {
	case size < 0 || size == 0 && len(p.b) >= 10:
		panic(api.ErrOver)
	case size == 0:
		panic(api.ErrShort)
	case size > 1 && p.b[size-1] == 0:
		panic(api.ErrForm)
	}
	p.b = p.b[size:]
	return n
}

func (p *plain) whole() int64 {
	b := p.b
	p.num()
	n, _ := binary.Varint(b)
	return n
}

func (p *plain) text(most uint64) string {
	b := p.b
	n := p.num()
	rest := p.b
	p.b = b
	if n > most {
		panic(api.ErrLong)
	}
	if n > uint64(len(rest)) {
		panic(api.ErrShort)
	}
	p.b = rest[n:]
	return string(rest[:n])
}

func (p *plain) upTo(most uint64) uint64 {
	n := p.num()
	if n > most {
		panic(api.ErrForm)
	}
	return n
}

func (p *plain) dot() (api.Dot, bool) {
	rep, inc, seq := p.num(), p.num(), p.num()
	return at(uint8(rep), uint32(inc), seq), rep < 16 && inc < 5
}

func (p *plain) take() api.Op {
	may := true
	o := api.Op{Kind: uint8(p.upTo(255))}
	for n := p.upTo(3); n > 0; n-- {
		o.Path = append(o.Path, p.text(12))
	}
	o.N = p.whole()
	o.Text = p.text(40)
	for n := p.upTo(64); n > 0; n-- {
		d, is := p.dot()
		may = may && is
		o.Dots = append(o.Dots, d)
	}
	if !may || !plainMay(o) {
		panic(api.ErrForm)
	}
	return o
}

// first tells the error with which the step ends.
func first(step func()) (e api.Errno) {
	defer func() {
		if x := recover(); x != nil {
			e = x.(api.Errno)
		}
	}()
	step()
	return api.OK
}

// plainTake is the document's words for Take: the operation, how many bytes are left, and the error.
func plainTake(b []byte) (api.Op, int, api.Errno) {
	p := &plain{b}
	var o api.Op
	e := first(func() { o = p.take() })
	return o, len(p.b), e
}

// plainRead is the document's words for Read.
func plainRead(b []byte) (api.Event, api.Errno) {
	p := &plain{b}
	var e api.Event
	f := first(func() {
		d, is := p.dot()
		time := p.num()
		o := p.take()
		if !is || !plainDot(d) || time < 1 || time > 1<<40 || len(p.b) > 0 {
			panic(api.ErrForm)
		}
		e = api.Event{Dot: d, Time: time, Op: o}
	})
	return e, f
}

func isZero(o api.Op) bool {
	return o.Kind == 0 && o.Path == nil && o.N == 0 && o.Text == "" && o.Dots == nil
}

func sameEvent(a, b api.Event) bool { return a.Dot == b.Dot && a.Time == b.Time && Same(a.Op, b.Op) }

func isZeroEvent(e api.Event) bool { return e.Dot == (api.Dot{}) && e.Time == 0 && isZero(e.Op) }

// events tells events that may be, of all kinds and edges.
func events() []api.Event {
	var l []api.Event
	for i, o := range ops() {
		if !plainMay(o) {
			continue
		}
		ds, times := []api.Dot{at(0, 1, 1), at(1, 2, 300), at(15, 4, 1<<20)}, []uint64{1, 200, 1 << 40}
		l = append(l, api.Event{Dot: ds[i%3], Time: times[i/3%3], Op: o})
	}
	return l
}

// P4.2: Num of Kind, the names, Int of N, Text, the Dots; of any operation.
func TestPut(t *testing.T) {
	for _, x := range []struct {
		o    api.Op
		want string
	}{
		{api.Op{}, "\x00\x00\x00\x00\x00"},
		{api.Op{Kind: api.OpAdd, Path: []string{"a"}, N: 5}, "\x01\x01\x01a\x0A\x00\x00"},
		{api.Op{Kind: api.OpAdd, Path: []string{"a"}, N: -1000000}, "\x01\x01\x01a\xFF\x88\x7A\x00\x00"},
		{api.Op{Kind: api.OpSet, Path: []string{"a", "bc"}, Text: "xy"}, "\x02\x02\x01a\x02bc\x00\x02xy\x00"},
		{api.Op{Kind: api.OpDrop, Path: []string{"a"}, Text: "x", Dots: []api.Dot{at(1, 2, 300), at(15, 4, 1)}}, "\x04\x01\x01a\x00\x01x\x02\x01\x02\xAC\x02\x0F\x04\x01"},
		{api.Op{Kind: 255, Path: []string{"", "a b"}, N: -1, Dots: []api.Dot{at(255, 0, 0)}}, "\xFF\x01\x02\x00\x03a b\x01\x00\x01\xFF\x01\x00\x00"},
		{api.Op{Dots: []api.Dot{at(16, math.MaxUint32, math.MaxUint64)}}, "\x00\x00\x00\x00\x01\x10\xFF\xFF\xFF\xFF\x0F\xFF\xFF\xFF\xFF\xFF\xFF\xFF\xFF\xFF\x01"},
	} {
		if got := Put(nil, x.o); string(got) != x.want {
			t.Errorf("Put(%v) = %x, want %x", x.o, got, x.want)
		}
	}
	for _, o := range ops() {
		want := plainPut(o)
		if got := Put(nil, o); !bytes.Equal(got, want) {
			t.Errorf("Put(%v) = %x, want %x", o, got, want)
		}
		if got := Put([]byte("ahead"), o); string(got) != "ahead"+string(want) {
			t.Errorf("Put of %v behind bytes = %x", o, got)
		}
	}
}

// Rules: what is handed to Put is not changed, whatever room is behind it, and what is told is in memory of its own.
func TestPutOwnMemory(t *testing.T) {
	o := api.Op{Kind: api.OpSet, Path: []string{"a"}, Text: "x"}
	for _, ahead := range []int{0, 1, 100} {
		room := bytes.Repeat([]byte{7}, 1000)
		got := Put(room[:ahead], o)
		clear(got[:cap(got)])
		if !bytes.Equal(room, bytes.Repeat([]byte{7}, 1000)) {
			t.Error("Put shares memory with what is handed in, or writes behind it:", ahead)
		}
		one, two := Put(room[:ahead], o), Put(room[:ahead], api.Op{Kind: api.OpSay, Path: []string{"b"}, Text: "yy"})
		if string(one[ahead:]) != "\x02\x01\x01a\x00\x01x\x00" || string(two[ahead:]) != "\x05\x01\x01b\x00\x02yy\x00" {
			t.Error("two behind the same bytes:", ahead, one, two)
		}
	}
}

// P4.2: Take takes what Put lays, of operations that may be, and leaves what is behind.
func TestTake(t *testing.T) {
	var all []byte
	var want []api.Op
	for _, o := range ops() {
		if plainMay(o) {
			all, want = append(all, plainPut(o)...), append(want, o)
		}
	}
	all = append(all, 9)
	r := code.NewReader(all)
	for _, o := range want {
		if got := Take(r); !Same(got, o) || r.Err() != api.OK {
			t.Fatalf("Take tells %v, %d, want %v", got, r.Err(), o)
		}
	}
	if r.Left() != 1 || r.Num() != 9 {
		t.Error("what is behind")
	}
	if len(want) < 100 {
		t.Error("few operations may be:", len(want))
	}
}

// takes checks that Take leaves that error and so many bytes to the reader, and tells the zero operation.
func takes(t *testing.T, name string, b []byte, want api.Errno, left int) {
	t.Helper()
	r := code.NewReader(b)
	if o := Take(r); !isZero(o) || r.Err() != want || r.Left() != left {
		t.Errorf("%s: Take of %.30x tells %v, %d with %d left, want %d with %d left", name, b, o, r.Err(), r.Left(), want, left)
	}
}

// P4.2: of operations that may not be: ErrForm, once all of it is read.
func TestTakeMayNot(t *testing.T) {
	for _, o := range ops() {
		if plainMay(o) {
			continue
		}
		b := append(plainPut(o), 9, 9)
		_, left, want := plainTake(b)
		takes(t, "may not be", b, want, left)
		long := slices.ContainsFunc(o.Path, func(s string) bool { return len(s) > 12 }) || len(o.Text) > 40
		if many := len(o.Path) > 3 || len(o.Dots) > 64; !long && !many && (want != api.ErrForm || left != 2) || long && !many && want != api.ErrLong {
			t.Errorf("the test's own words tell %d with %d left of %v", want, left, o)
		}
	}
}

// P4.2: what is told of wrong bytes, what ahead of what, and what is gone then.
func TestTakeWrong(t *testing.T) {
	over := strings.Repeat("\xFF", 10)
	name13, text41 := "\x0D"+strings.Repeat("a", 13), "\x29"+strings.Repeat("a", 41)
	for _, x := range []struct {
		name string
		b    string
		want api.Errno
		left int
	}{
		{"nothing", "", api.ErrShort, 0},
		{"Kind ends within", "\x81", api.ErrShort, 1},
		{"Kind not canonical", "\x81\x00\x01\x01a\x00\x00\x00", api.ErrForm, 8},
		{"Kind too great for a number", over + "\x01", api.ErrOver, 11},
		{"Kind 255, and short", "\xFF\x01", api.ErrShort, 0},
		{"Kind 255, and a text too long", "\xFF\x01\x00\x00" + text41 + "\x00", api.ErrLong, 43},
		{"Kind 6, and short", "\x06\x01\x01a\x00\x00", api.ErrShort, 0},
		{"Kind 6", "\x06\x01\x01a\x00\x00\x00", api.ErrForm, 0},
		{"Kind 0", "\x00\x01\x01a\x00\x00\x00\x05", api.ErrForm, 1},
		{"Kind 256, at once", "\x80\x02", api.ErrForm, 0},
		{"Kind 256, at once, and more", "\x80\x02\x01\x01a\x00\x00\x00", api.ErrForm, 6},
		{"Kind 257, that would be 1, if it was cut", "\x81\x02\x01\x01a\x00\x00\x00", api.ErrForm, 6},
		{"Kind 256, and a broken number", "\x80\x02" + over, api.ErrForm, 10},
		{"no names", "\x01", api.ErrShort, 0},
		{"0 names", "\x01\x00\x00\x00\x00", api.ErrForm, 0},
		{"0 names, and short", "\x01\x00\x00\x00", api.ErrShort, 0},
		{"0 names, and a text too long", "\x02\x00\x00" + text41, api.ErrLong, 42},
		{"how many names, not canonical", "\x01\x81\x00\x01a\x00\x00\x00", api.ErrForm, 7},
		{"4 names, at once", "\x01\x04", api.ErrForm, 0},
		{"4 names, at once, and more", "\x01\x04\x01a\x01b\x01c\x01d\x00\x00\x00", api.ErrForm, 11},
		{"names beyond number", string(nums(1, math.MaxUint64)) + "\x01a", api.ErrForm, 2},
		{"a name that is missing", "\x01\x02\x01a", api.ErrShort, 0},
		{"a name that is short", "\x01\x01\x03ab", api.ErrShort, 3},
		{"a name that is nothing", "\x01\x01\x00\x00\x00\x00", api.ErrForm, 0},
		{"a name of a wrong byte", "\x01\x01\x01-\x00\x00\x00", api.ErrForm, 0},
		{"a name of a wrong byte, and short", "\x01\x01\x01-\x00\x00", api.ErrShort, 0},
		{"a name too long", "\x01\x01" + name13 + "\x00\x00\x00", api.ErrLong, 17},
		{"a name too long, and short", "\x01\x01\x0Dab", api.ErrLong, 3},
		{"the third name too long", "\x01\x03\x01a\x01b" + name13, api.ErrLong, 14},
		{"a name's length beyond number", "\x01\x01" + over + "\x01", api.ErrOver, 11},
		{"no N", "\x01\x01\x01a", api.ErrShort, 0},
		{"N not canonical", "\x01\x01\x01a\x80\x00\x00\x00", api.ErrForm, 4},
		{"N too great for a number", "\x01\x01\x01a" + over + "\x00\x00", api.ErrOver, 12},
		{"N 1000001", string(append([]byte("\x01\x01\x01a"), nums(2000002, 0, 0)...)), api.ErrForm, 0},
		{"N -1000001", string(append([]byte("\x01\x01\x01a"), nums(2000001, 0, 0)...)), api.ErrForm, 0},
		{"N the least", string(append([]byte("\x01\x01\x01a"), nums(math.MaxUint64, 0, 0)...)), api.ErrForm, 0},
		{"N of an OpSet", "\x02\x01\x01a\x01\x00\x00", api.ErrForm, 0},
		{"no Text", "\x01\x01\x01a\x00", api.ErrShort, 0},
		{"Text of an OpAdd", "\x01\x01\x01a\x00\x01x\x00", api.ErrForm, 0},
		{"Text short", "\x02\x01\x01a\x00\x03xy", api.ErrShort, 3},
		{"Text too long", "\x02\x01\x01a\x00" + text41 + "\x00", api.ErrLong, 43},
		{"Text too long, and short", "\x02\x01\x01a\x00\x29xy", api.ErrLong, 3},
		{"no Dots", "\x02\x01\x01a\x00\x00", api.ErrShort, 0},
		{"Dots of an OpPut", "\x03\x01\x01a\x00\x00\x01\x00\x01\x01", api.ErrForm, 0},
		{"Dots of an OpPut, and short", "\x03\x01\x01a\x00\x00\x01\x00\x01", api.ErrShort, 0},
		{"65 Dots, at once", "\x04\x01\x01a\x00\x00\x41", api.ErrForm, 0},
		{"65 Dots, at once, and more", "\x04\x01\x01a\x00\x00\x41\x00\x01\x01", api.ErrForm, 3},
		{"Dots beyond number", "\x04\x01\x01a\x00\x00" + string(nums(math.MaxUint64)), api.ErrForm, 0},
		{"64 Dots, and short", "\x04\x01\x01a\x00\x00\x40\x00\x01\x01", api.ErrShort, 0},
		{"a dot that may not be", "\x04\x01\x01a\x00\x00\x01\x00\x00\x01", api.ErrForm, 0},
		{"a dot that may not be, and short", "\x04\x01\x01a\x00\x00\x02\x00\x00\x01\x00\x01", api.ErrShort, 0},
		{"a dot that may not be, and one beyond number", "\x04\x01\x01a\x00\x00\x02\x10\x00\x00" + over, api.ErrOver, 10},
		{"Dots falling", "\x04\x01\x01a\x00\x00\x02\x00\x01\x02\x00\x01\x01", api.ErrForm, 0},
		{"Dots twice", "\x04\x01\x01a\x00\x00\x02\x00\x01\x02\x00\x01\x02", api.ErrForm, 0},
		{"a wrong operation, and more behind", "\x04\x01\x01a\x01\x00\x00\x80", api.ErrForm, 1},
	} {
		takes(t, x.name, []byte(x.b), x.want, x.left)
		if o, left, e := plainTake([]byte(x.b)); !isZero(o) || left != x.left || e != x.want {
			t.Errorf("%s: the test's own words tell %v, %d with %d left", x.name, o, e, left)
		}
	}
}

// wrongNumbers tells numbers of dots that may not be, also ones that might be, if they were cut to fit.
func wrongNumbers() [][3]uint64 {
	return [][3]uint64{
		{16, 1, 1}, {255, 1, 1}, {256, 1, 1}, {257, 1, 1}, {1 << 32, 1, 1}, {1 << 63, 1, 1}, {math.MaxUint64, 1, 1},
		{0, 0, 1}, {0, 5, 1}, {0, 256 + 1, 1}, {0, 1<<32 + 1, 1}, {0, 1 << 32, 1}, {0, math.MaxUint64, 1},
		{0, 1, 0}, {0, 1, 1<<20 + 1}, {0, 1, 1<<32 + 1}, {0, 1, math.MaxUint64},
	}
}

// P4.2, P4.3: dots that may not be.
func TestWrongDots(t *testing.T) {
	for _, x := range wrongNumbers() {
		takes(t, "a wrong dot", append([]byte("\x04\x01\x01a\x00\x00\x01"), nums(x[0], x[1], x[2], 9)...), api.ErrForm, 1)
		takes(t, "a wrong dot ahead", append([]byte("\x04\x01\x01a\x00\x00\x02"), nums(x[0], x[1], x[2], 15, 4, 1<<20)...), api.ErrForm, 0)
		takes(t, "a wrong dot, and short", append([]byte("\x04\x01\x01a\x00\x00\x02"), nums(x[0], x[1], x[2], 15, 4)...), api.ErrShort, 0)
		refused(t, "an event's wrong dot", append(nums(x[0], x[1], x[2], 1), "\x01\x01\x01a\x0A\x00\x00"...), api.ErrForm)
		refused(t, "an event's wrong dot, and short", append(nums(x[0], x[1], x[2], 1), "\x01\x01\x01a\x0A\x00"...), api.ErrShort)
		refused(t, "an event's wrong dot, and a name too long", append(nums(x[0], x[1], x[2], 1), "\x01\x01\x0D"...), api.ErrLong)
	}
}

// P4.2, P1: of a reader that has an error, that is not there, or was not made: the zero operation, and its error.
func TestTakeOfNoReader(t *testing.T) {
	r := code.NewReader([]byte("\x01\x01\x01a\x0A\x00\x00"))
	r.Fail(api.ErrSum)
	if o := Take(r); !isZero(o) || r.Err() != api.ErrSum || r.Left() != 7 {
		t.Error("of a reader with an error:", o, r.Err(), r.Left())
	}
	if o := Take(nil); !isZero(o) {
		t.Error("of none:", o)
	}
	var none code.Reader
	if o := Take(&none); !isZero(o) || none.Err() != api.ErrNil {
		t.Error("of one that was not made:", o, none.Err())
	}
}

// Rules: two operations that are taken share no memory, neither with the bytes.
func TestTakeOwnMemory(t *testing.T) {
	want := api.Op{Kind: api.OpDrop, Path: []string{"a", "b"}, Text: "x", Dots: rising(3)}
	b := plainPut(want)
	one, two := Take(code.NewReader(b)), Take(code.NewReader(b))
	clear(one.Path[:cap(one.Path)])
	clear(one.Dots[:cap(one.Dots)])
	clear(b)
	if !Same(two, want) {
		t.Error("shared:", two)
	}
}

// P4.3: its dot's numbers, Time, and Put of its operation.
func TestBytes(t *testing.T) {
	e := api.Event{Dot: at(1, 2, 300), Time: 1 << 40, Op: api.Op{Kind: api.OpDrop, Path: []string{"a", "b"}, Text: "x", Dots: []api.Dot{at(0, 1, 1)}}}
	if b, f := Bytes(e); f != api.OK || string(b) != "\x01\x02\xAC\x02\x80\x80\x80\x80\x80\x20\x04\x02\x01a\x01b\x00\x01x\x01\x00\x01\x01" {
		t.Errorf("%x, %d", b, f)
	}
	for _, e := range events() {
		want := append(nums(uint64(e.Dot.Rep), uint64(e.Dot.Inc), e.Dot.Seq, e.Time), plainPut(e.Op)...)
		if b, f := Bytes(e); f != api.OK || !bytes.Equal(b, want) {
			t.Errorf("Bytes(%v) = %x, %d, want %x", e, b, f, want)
		}
	}
}

// P4.3: ErrArg, if the event may not be.
func TestBytesWrong(t *testing.T) {
	good := api.Event{Dot: at(0, 1, 1), Time: 1, Op: api.Op{Kind: api.OpAdd, Path: []string{"a"}}}
	wrong := func(e api.Event) {
		t.Helper()
		if b, f := Bytes(e); b != nil || f != api.ErrArg {
			t.Errorf("Bytes(%v) = %x, %d", e, b, f)
		}
	}
	wrong(api.Event{})
	for _, time := range []uint64{0, 1<<40 + 1, math.MaxUint64} {
		e := good
		e.Time = time
		wrong(e)
	}
	for _, d := range slices.Concat(lists()...) {
		if e := good; !plainDot(d) {
			e.Dot = d
			wrong(e)
		}
	}
	for _, o := range ops() {
		if e := good; !plainMay(o) {
			e.Op = o
			wrong(e)
		}
	}
	if b, f := Bytes(good); f != api.OK || len(b) == 0 {
		t.Error("of a good one:", b, f)
	}
}

// refused checks that Read tells that error of the bytes, and no event.
func refused(t *testing.T, name string, b []byte, want api.Errno) {
	t.Helper()
	if e, f := Read(b); !isZeroEvent(e) || f != want {
		t.Errorf("%s: Read(%.40x) = %v, %d, want %d", name, b, e, f, want)
	}
}

// P4.3, what follows: each event that may be has one form, that is read as it; none of its bytes may be missing, and none more be there.
func TestReadAgain(t *testing.T) {
	seen := map[string]api.Event{}
	for _, e := range events() {
		b, _ := Bytes(e)
		if got, f := Read(b); f != api.OK || !sameEvent(got, e) {
			t.Errorf("Read(%x) = %v, %d, want %v", b, got, f, e)
		}
		if other, is := seen[string(b)]; is && !sameEvent(other, e) {
			t.Errorf("%v and %v have one form", other, e)
		}
		seen[string(b)] = e
		for n := range b {
			refused(t, "cut", b[:n], api.ErrShort)
		}
		for _, behind := range []string{"\x00", "\x80", strings.Repeat("\xFF", 11), string(b)} {
			refused(t, "more behind", append(bytes.Clone(b), behind...), api.ErrForm)
		}
	}
}

// P4.3: what is told of wrong bytes, and what ahead of what.
func TestReadWrong(t *testing.T) {
	over, add := strings.Repeat("\xFF", 10), "\x01\x01\x01a\x0A\x00\x00"
	for _, x := range []struct {
		name string
		b    string
		want api.Errno
	}{
		{"nothing", "", api.ErrShort},
		{"Rep not canonical", "\x80\x00\x01\x01\x01" + add, api.ErrForm},
		{"Rep too great for a number", over + "\x01\x01\x01" + add, api.ErrOver},
		{"Inc too great for a number", "\x00" + over + "\x01\x01" + add, api.ErrOver},
		{"Seq too great for a number", "\x00\x01" + over + "\x01" + add, api.ErrOver},
		{"Time too great for a number", "\x00\x01\x01" + over + add, api.ErrOver},
		{"Time not canonical", "\x00\x01\x01\x81\x00" + add, api.ErrForm},
		{"Time 0", "\x00\x01\x01\x00" + add, api.ErrForm},
		{"Time 0, and short", "\x00\x01\x01\x00" + add[:6], api.ErrShort},
		{"Time 0, and a Text too long", "\x00\x01\x01\x00\x02\x01\x01a\x00\x29", api.ErrLong},
		{"Time beyond 2^40", string(nums(0, 1, 1, 1<<40+1)) + add, api.ErrForm},
		{"Time beyond 2^40, that would be 1, if it was cut", string(nums(0, 1, 1, 1<<63+1)) + add, api.ErrForm},
		{"no operation", "\x00\x01\x01\x01", api.ErrShort},
		{"a wrong operation", "\x00\x01\x01\x01\x06\x01\x01a\x00\x00\x00", api.ErrForm},
		{"a wrong operation, and short", "\x00\x01\x01\x01\x06\x01\x01a\x00\x00", api.ErrShort},
		{"Kind 256, and short", "\x00\x01\x01\x01\x80\x02", api.ErrForm},
		{"4 names, and short", "\x00\x01\x01\x01\x01\x04", api.ErrForm},
		{"65 Dots, and short", "\x00\x01\x01\x01\x04\x01\x01a\x00\x00\x41", api.ErrForm},
		{"a name too long", "\x00\x01\x01\x01\x01\x01\x0D", api.ErrLong},
		{"a Text too long", "\x00\x01\x01\x01\x02\x01\x01a\x00\x29", api.ErrLong},
		{"a dot that may not be, and the operation over", "\x10\x01\x01\x01\x01\x01\x01a" + over, api.ErrOver},
	} {
		refused(t, x.name, []byte(x.b), x.want)
		if _, e := plainRead([]byte(x.b)); e != x.want {
			t.Errorf("%s: the test's own words tell %d", x.name, e)
		}
	}
}

// compared checks that Read and Take are as the document's words are.
func compared(t *testing.T, b []byte) {
	t.Helper()
	was := bytes.Clone(b)
	e, f := Read(b)
	if w, g := plainRead(b); f != g || !sameEvent(e, w) || f != api.OK && !isZeroEvent(e) {
		t.Fatalf("Read(%x) = %v, %d, want %v, %d", b, e, f, w, g)
	}
	if again, g := Bytes(e); f == api.OK && (g != api.OK || !bytes.Equal(again, b)) {
		t.Fatalf("Read(%x) = %v, whose Bytes are %x, %d", b, e, again, g)
	}
	r := code.NewReader(b)
	o := Take(r)
	if w, left, g := plainTake(b); r.Err() != g || r.Left() != left || !Same(o, w) || g != api.OK && !isZero(o) {
		t.Fatalf("Take of %x tells %v, %d with %d left, want %v, %d with %d left", b, o, r.Err(), r.Left(), w, g, left)
	}
	if !bytes.Equal(b, was) {
		t.Fatalf("changed: %x", was)
	}
}

// P4.2, P4.3: of bytes that were changed here and there Read and Take are as the document's words are.
func TestChanged(t *testing.T) {
	r := rand.New(rand.NewSource(4))
	few := []byte{0, 1, 2, 3, 4, 5, 12, 13, 40, 41, 64, 65, 'a', 0x7F, 0x80, 0xFF}
	for _, e := range events() {
		b, _ := Bytes(e)
		for range 40 {
			c := bytes.Clone(b)
			for range 1 + r.Intn(3) {
				at := r.Intn(len(c))
				switch r.Intn(4) {
				case 0:
					c = slices.Insert(c, at, few[r.Intn(len(few))])
				case 1:
					c = slices.Delete(c, at, min(at+1+r.Intn(2), len(c)-1))
				default:
					c[at] = few[r.Intn(len(few))]
				}
			}
			compared(t, c)
			compared(t, c[min(4, len(c)):])
		}
	}
}

// Rules: what is handed to Read is not kept, and what is told is in memory of its own.
func TestReadOwnMemory(t *testing.T) {
	want := api.Event{Dot: at(0, 1, 3), Time: 7, Op: api.Op{Kind: api.OpDrop, Path: []string{"a", "b"}, Text: "x", Dots: rising(3)}}
	b, _ := Bytes(want)
	other, _ := Bytes(want)
	clear(other[:cap(other)])
	one, _ := Read(b)
	two, _ := Read(b)
	clear(one.Op.Path[:cap(one.Op.Path)])
	clear(one.Op.Dots[:cap(one.Op.Dots)])
	clear(b)
	if !sameEvent(two, want) {
		t.Error("shared:", two)
	}
}

// P4.2, P4.3, P1: of any bytes Read and Take are as the document's words are.
func FuzzRead(f *testing.F) {
	for i, e := range events() {
		if b, _ := Bytes(e); i%7 == 0 {
			f.Add(b)
			f.Add(b[4:])
			f.Add(append(b, 0))
		}
	}
	f.Add([]byte("\x04\x01\x01a\x00\x00\x02\x00\x01\x02\x00\x01\x01"))
	f.Add([]byte("\x80\x02\x01\x01a\x00\x00\x00"))
	f.Add([]byte(strings.Repeat("\xFF", 11)))
	f.Fuzz(func(t *testing.T, b []byte) { compared(t, b) })
}

// P1, P4.1, P4.2, P4.3: of any operation all calls are as the document's words are.
func FuzzOps(f *testing.F) {
	f.Add(uint8(1), "a", int64(5), "", []byte(nil), uint64(1))
	f.Add(uint8(2), "a.b.c", int64(0), "text", []byte(nil), uint64(1<<40))
	f.Add(uint8(3), "abcdefghijklm", int64(0), "text", []byte(nil), uint64(0))
	f.Add(uint8(4), "a", int64(0), "", []byte("\x00\x01\x01\x00\x01\x02"), uint64(7))
	f.Add(uint8(5), "a.b.c.d", int64(1), "", []byte("\x10\x01\x01"), uint64(1<<40+1))
	f.Fuzz(func(t *testing.T, kind uint8, path string, n int64, text string, dots []byte, time uint64) {
		o := api.Op{Kind: kind, Path: strings.Split(path, "."), N: n, Text: text}
		for ; len(dots) >= 3; dots = dots[3:] {
			o.Dots = append(o.Dots, at(dots[0], uint32(dots[1]), uint64(dots[2])))
		}
		if May(o) != plainMay(o) || MayPath(o.Path) != plainPath(o.Path) || IsName(path) != plainName(path) || !Same(o, o) {
			t.Fatal(o)
		}
		b := Put([]byte("b"), o)
		if string(b) != "b"+string(plainPut(o)) {
			t.Fatalf("Put(%v) = %x", o, b)
		}
		compared(t, b[1:])
		e := api.Event{Dot: at(3, 2, time), Time: time, Op: o}
		may := time >= 1 && time <= 1<<20 && plainMay(o)
		x, g := Bytes(e)
		if MayEvent(e) != may || may != (g == api.OK) || !may && (x != nil || g != api.ErrArg) {
			t.Fatalf("Bytes(%v) = %x, %d", e, x, g)
		}
		if y, h := Read(x); may && (h != api.OK || !sameEvent(y, e)) {
			t.Fatalf("Read(%x) = %v, %d", x, y, h)
		}
	})
}
