package commit

import (
	"bytes"
	"encoding/binary"
	"math"
	"math/rand"
	"slices"
	"strings"
	"testing"

	"varve/api"
	"varve/code"
	"varve/op"
)

// nums tells the bytes of numbers, one behind the other.
func nums(ns ...uint64) []byte {
	var b []byte
	for _, n := range ns {
		b = binary.AppendUvarint(b, n)
	}
	return b
}

// plainDots tells the bytes of how many dots there are, and of each one.
func plainDots(l []api.Dot) []byte {
	b := nums(uint64(len(l)))
	for _, d := range l {
		b = append(b, nums(uint64(d.Rep), uint64(d.Inc), d.Seq)...)
	}
	return b
}

// plainPut is the document's words for a commit's bytes.
func plainPut(c api.Commit) []byte {
	return slices.Concat(plainDots(dotsIn(c.Dot))[1:], plainDots(c.Parents), plainDots(c.VV), nums(c.Time), op.Put(nil, c.Op))
}

// plain takes bytes by the document's words: it panics with its first error. Odd is whether a number was above what its part holds.
type plain struct {
	b   []byte
	odd bool
}

func (p *plain) num() uint64 {
	n, size := binary.Uvarint(p.b)
	switch {
	case size < 0 || size == 0 && len(p.b) >= 10:
		panic(api.ErrOver)
	case size == 0:
		panic(api.ErrShort)
	case size > 1 && p.b[size-1] == 0:
		panic(api.ErrForm)
	}
	p.b = p.b[size:]
	return n
}

func (p *plain) dot() api.Dot {
	rep, inc, seq := p.num(), p.num(), p.num()
	p.odd = p.odd || rep > 15 || inc > 4
	return at(uint8(rep), uint32(inc), seq)
}

func (p *plain) dots() []api.Dot {
	n := p.num()
	if n > 64 {
		panic(api.ErrForm)
	}
	var l []api.Dot
	for ; n > 0; n-- {
		l = append(l, p.dot())
	}
	return l
}

// take takes the operation as layer 4 does it.
func (p *plain) take() api.Commit {
	c := api.Commit{Dot: p.dot(), Parents: p.dots(), VV: p.dots(), Time: p.num()}
	r := code.NewReader(p.b)
	c.Op = op.Take(r)
	p.b = p.b[len(p.b)-r.Left():]
	if r.Err() != api.OK {
		panic(r.Err())
	}
	if p.odd || !plainMay(c) {
		panic(api.ErrForm)
	}
	return c
}

// first tells the error with which the step ends.
func first(step func()) (e api.Errno) {
	defer func() {
		if x := recover(); x != nil {
			e = x.(api.Errno)
		}
	}()
	step()
	return api.OK
}

// plainTake is the document's words for Take: the commit, how many bytes are left, and the error.
func plainTake(b []byte) (api.Commit, int, api.Errno) {
	p := &plain{b: b}
	var c api.Commit
	e := first(func() { c = p.take() })
	return c, len(p.b), e
}

// plainRead is the document's words for Read.
func plainRead(b []byte) (api.Commit, api.Errno) {
	c, left, e := plainTake(b)
	if e == api.OK && left > 0 {
		return api.Commit{}, api.ErrForm
	}
	return c, e
}

// P11.2: its dot, its Parents, its VV, Time, its operation; of any commit.
func TestPut(t *testing.T) {
	for _, x := range []struct {
		c    api.Commit
		want string
	}{
		{api.Commit{}, "\x00\x00\x00\x00\x00\x00\x00\x00\x00\x00\x00"},
		{api.Commit{Dot: one(1), VV: dotsIn(one(1)), Time: 1, Op: add(5)}, "\x00\x01\x01\x00\x01\x00\x01\x01\x01\x01\x01\x01a\x0A\x00\x00"},
		{good(), "\x01\x02\x05\x04\x00\x01\x03\x00\x01\x07\x01\x01\x02\x01\x02\x04\x04\x00\x01\x07\x01\x01\x02\x01\x02\x05\x0F\x04\x80\x80\x40\xAC\x02\x04\x02\x01a\x02bc\x00\x02xy\x03\x00\x01\x01\x01\x02\x04\x0F\x04\x80\x80\x40"},
		{
			api.Commit{Dot: at(255, math.MaxUint32, math.MaxUint64), Parents: dotsIn(one(2), one(1), one(1)), VV: dotsIn(one(2), one(1), at(16, 0, 0)), Time: 1 << 63, Op: api.Op{Kind: 255, Path: []string{""}, N: -1}},
			"\xFF\x01\xFF\xFF\xFF\xFF\x0F\xFF\xFF\xFF\xFF\xFF\xFF\xFF\xFF\xFF\x01\x03\x00\x01\x02\x00\x01\x01\x00\x01\x01\x03\x00\x01\x02\x00\x01\x01\x10\x00\x00\x80\x80\x80\x80\x80\x80\x80\x80\x80\x01\xFF\x01\x01\x00\x01\x00\x00",
		},
	} {
		if got := Put(nil, x.c); string(got) != x.want {
			t.Errorf("Put(%v) = %x, want %x", x.c, got, x.want)
		}
	}
	for _, c := range slices.Concat(right(), wrong(), unlike()) {
		want := plainPut(c)
		if got := Put(nil, c); !bytes.Equal(got, want) {
			t.Errorf("Put(%v) = %x, want %x", c, got, want)
		}
		if got := Put([]byte("ahead"), c); string(got) != "ahead"+string(want) {
			t.Errorf("Put of %v behind bytes = %x", c, got)
		}
	}
}

// Rules: what is handed to Put is not changed, whatever room is behind it, and what is told is in memory of its own.
func TestPutOwnMemory(t *testing.T) {
	for _, ahead := range []int{0, 1, 100} {
		for _, c := range slices.Concat(right(), wrong(), []api.Commit{{}}) {
			room := bytes.Repeat([]byte{7}, 3000)
			got := Put(room[:ahead], c)
			other := Put(room[:ahead], good())
			if !bytes.Equal(got[ahead:], plainPut(c)) || !bytes.Equal(other[ahead:], plainPut(good())) {
				t.Error("two behind the same bytes:", ahead, got, other)
			}
			clear(got[:cap(got)])
			if !bytes.Equal(room, bytes.Repeat([]byte{7}, 3000)) {
				t.Error("Put shares memory with what is handed in, or writes behind it:", ahead)
			}
		}
	}
}

// P11.2: Take takes what Put lays, of commits that may be, and leaves what is behind.
func TestTake(t *testing.T) {
	var all []byte
	for _, c := range right() {
		all = append(all, plainPut(c)...)
	}
	r := code.NewReader(append(all, 9))
	for _, c := range right() {
		if got := Take(r); !just(got, c) || r.Err() != api.OK {
			t.Fatalf("Take tells %v, %d, want %v", got, r.Err(), c)
		}
	}
	if r.Left() != 1 || r.Num() != 9 {
		t.Error("what is behind")
	}
}

// takes checks that Take leaves that error and so many bytes to the reader, and tells the zero commit.
func takes(t *testing.T, name string, b []byte, want api.Errno, left int) {
	t.Helper()
	r := code.NewReader(b)
	if c := Take(r); !isZero(c) || r.Err() != want || r.Left() != left {
		t.Errorf("%s: Take of %.40x tells %v, %d with %d left, want %d with %d left", name, b, c, r.Err(), r.Left(), want, left)
	}
}

// P11.2: of commits that may not be: ErrForm, once all of it is read, but at once of lists that are too long; of an operation what layer 4 tells.
func TestTakeMayNot(t *testing.T) {
	for _, c := range wrong() {
		b := append(plainPut(c), 9, 9)
		_, left, want := plainTake(b)
		takes(t, "may not be", b, want, left)
		if long := len(c.Op.Text) > 40; long != (want == api.ErrLong) || !long && want != api.ErrForm {
			t.Errorf("the test's own words tell %d of %v", want, c)
		}
		if many := len(c.Parents) > 64 || len(c.VV) > 64 || len(c.Op.Dots) > 64; want == api.ErrForm && !many && left != 2 {
			t.Errorf("the test's own words leave %d of %v", left, c)
		}
	}
}

// Parts of a commit's bytes that may be: dot, Parents, VV, Time, operation.
const (
	dotPart  = "\x01\x01\x02"
	fathers  = "\x01\x00\x01\x03"
	history  = "\x02\x00\x01\x03\x01\x01\x02"
	timePart = "\x07"
	opPart   = "\x01\x01\x01a\x0A\x00\x00"
)

// P11.2: what is told of wrong bytes, what ahead of what, and what is gone then.
func TestTakeWrong(t *testing.T) {
	over, many := strings.Repeat("\xFF", 10), string(nums(math.MaxUint64))
	rest := history + timePart + opPart
	for _, x := range []struct {
		name string
		b    string
		want api.Errno
		left int
	}{
		{"nothing", "", api.ErrShort, 0},
		{"Rep ends within", "\x81", api.ErrShort, 1},
		{"Rep not canonical", "\x81\x00\x01\x02" + fathers + rest, api.ErrForm, 23},
		{"Rep too great for a number", over + "\x01\x02" + fathers + rest, api.ErrOver, 31},
		{"Inc too great for a number", "\x01" + over + "\x02", api.ErrOver, 11},
		{"Seq too great for a number", "\x01\x01" + over, api.ErrOver, 10},
		{"Rep 16, and short", "\x10\x01\x02", api.ErrShort, 0},
		{"Rep 16, and more than it", "\x10\x01\x02" + fathers + rest + "\x09", api.ErrForm, 1},
		{"Rep 16, and a Text too long", "\x10\x01\x02" + fathers + history + timePart + "\x02\x01\x01a\x00\x29x", api.ErrLong, 2},
		{"Rep 16, and 65 Parents", "\x10\x01\x02\x41\x00", api.ErrForm, 1},
		{"no Parents", dotPart, api.ErrShort, 0},
		{"how many Parents, not canonical", dotPart + "\x81\x00" + fathers[1:] + rest, api.ErrForm, 20},
		{"how many Parents, too great for a number", dotPart + over, api.ErrOver, 10},
		{"65 Parents, at once", dotPart + "\x41", api.ErrForm, 0},
		{"65 Parents, at once, and more", dotPart + "\x41" + fathers[1:] + rest, api.ErrForm, 18},
		{"65 Parents, at once, and a broken number", dotPart + "\x41" + over, api.ErrForm, 10},
		{"Parents beyond number", dotPart + many + "\x00", api.ErrForm, 1},
		{"Parents of which none is left, if they are cut", dotPart + string(nums(1<<32)) + rest, api.ErrForm, 15},
		{"Parents of which one is left, if they are cut", dotPart + string(nums(1<<32+1)) + fathers[1:] + rest, api.ErrForm, 18},
		{"64 Parents, and short", dotPart + "\x40\x00\x01\x03", api.ErrShort, 0},
		{"a parent that is missing", dotPart + "\x02\x00\x01\x03", api.ErrShort, 0},
		{"a parent's number, not canonical", dotPart + "\x01\x00\x81\x00\x03" + rest, api.ErrForm, 18},
		{"a parent's number, too great", dotPart + "\x01\x00\x01" + over + rest, api.ErrOver, 25},
		{"a parent that may not be, and short", dotPart + "\x01\x10\x00\x00" + history, api.ErrShort, 0},
		{"a parent that may not be", dotPart + "\x01\x10\x00\x00" + rest, api.ErrForm, 0},
		{"a parent that may not be, and a number too great", dotPart + "\x01\x10\x00\x00" + history + over, api.ErrOver, 10},
		{"a parent behind the history", dotPart + "\x01\x00\x01\x04" + rest, api.ErrForm, 0},
		{"its own dot as a parent", dotPart + "\x01" + dotPart + rest, api.ErrForm, 0},
		{"Parents falling", dotPart + "\x02\x00\x01\x03\x00\x01\x02" + rest, api.ErrForm, 0},
		{"Parents twice, and more behind", dotPart + "\x02\x00\x01\x03\x00\x01\x03" + rest + "\x80\x00", api.ErrForm, 2},
		{"no VV", dotPart + fathers, api.ErrShort, 0},
		{"how many dots VV has, not canonical", dotPart + fathers + "\x82\x00" + history[1:] + timePart + opPart, api.ErrForm, 16},
		{"VV of none", dotPart + "\x00\x00" + timePart + opPart, api.ErrForm, 0},
		{"VV of none, and short", dotPart + "\x00\x00" + timePart + opPart[:6], api.ErrShort, 0},
		{"VV of 65, at once", dotPart + fathers + "\x41", api.ErrForm, 0},
		{"VV of 65, at once, and more", dotPart + fathers + "\x41" + history[1:] + timePart + opPart, api.ErrForm, 14},
		{"VV of 65, and a broken number", dotPart + "\x00\x41" + over, api.ErrForm, 10},
		{"VV beyond number", dotPart + fathers + many + "\x01", api.ErrForm, 1},
		{"VV of two, if it is cut", dotPart + fathers + string(nums(1<<32+2)) + history[1:] + timePart + opPart, api.ErrForm, 14},
		{"VV of 64, and short", dotPart + fathers + "\x40" + history[1:], api.ErrShort, 0},
		{"VV of 64, at once not", dotPart + fathers + "\x40" + history[1:] + strings.Repeat("\x00", 62*3) + timePart + opPart, api.ErrForm, 0},
		{"VV falling", dotPart + fathers + "\x02\x01\x01\x02\x00\x01\x03" + timePart + opPart, api.ErrForm, 0},
		{"VV with an actor twice", dotPart + fathers + "\x03\x00\x01\x02\x00\x01\x03\x01\x01\x02" + timePart + opPart, api.ErrForm, 0},
		{"VV with a dot that may not be", dotPart + fathers + "\x03\x00\x01\x03\x01\x01\x02\x10\x01\x01" + timePart + opPart, api.ErrForm, 0},
		{"VV of another Seq", dotPart + fathers + "\x02\x00\x01\x03\x01\x01\x03" + timePart + opPart, api.ErrForm, 0},
		{"no Time", dotPart + fathers + history, api.ErrShort, 0},
		{"Time not canonical", dotPart + fathers + history + "\x87\x00" + opPart, api.ErrForm, 9},
		{"Time too great for a number", dotPart + fathers + history + over + opPart, api.ErrOver, 17},
		{"Time 0, and short", dotPart + fathers + history + "\x00", api.ErrShort, 0},
		{"Time 0", dotPart + fathers + history + "\x00" + opPart, api.ErrForm, 0},
		{"Time beyond 2^40", dotPart + fathers + history + string(nums(1<<40+1)) + opPart, api.ErrForm, 0},
		{"Time 7, if it is cut", dotPart + fathers + history + string(nums(1<<41+7)) + opPart, api.ErrForm, 0},
		{"no operation", dotPart + fathers + history + timePart, api.ErrShort, 0},
		{"Kind 0", dotPart + fathers + history + timePart + "\x00" + opPart[1:] + "\x09", api.ErrForm, 1},
		{"Kind 256, at once", dotPart + fathers + history + timePart + "\x80\x02" + opPart[1:], api.ErrForm, 6},
		{"4 names, at once", dotPart + fathers + history + timePart + "\x01\x04\x01a", api.ErrForm, 2},
		{"a name too long", dotPart + fathers + history + timePart + "\x01\x01\x0D", api.ErrLong, 1},
		{"a Text too long", dotPart + fathers + history + timePart + "\x02\x01\x01a\x00\x29", api.ErrLong, 1},
		{"65 Dots, at once", dotPart + fathers + history + timePart + "\x04\x01\x01a\x00\x00\x41\x00", api.ErrForm, 1},
		{"a dropped dot that is not within VV", dotPart + fathers + history + timePart + "\x04\x01\x01a\x00\x00\x01\x00\x01\x04", api.ErrForm, 0},
		{"its own dot, dropped", dotPart + fathers + history + timePart + "\x04\x01\x01a\x00\x00\x01" + dotPart, api.ErrForm, 0},
	} {
		takes(t, x.name, []byte(x.b), x.want, x.left)
		if c, left, e := plainTake([]byte(x.b)); !isZero(c) || left != x.left || e != x.want {
			t.Errorf("%s: the test's own words tell %v, %d with %d left", x.name, c, e, left)
		}
		if x.want != api.ErrForm || x.left == 0 {
			refused(t, x.name, []byte(x.b), x.want)
		}
	}
	if c, e := Read([]byte(dotPart + fathers + history + timePart + opPart)); e != api.OK || c.Dot != at(1, 1, 2) {
		t.Error("the parts:", c, e)
	}
}

// P11.2, P11.3: numbers of dots that may not be, also ones that might be, if they were cut to fit, wherever a dot stands.
func TestWrongNumbers(t *testing.T) {
	for _, x := range [][3]uint64{
		{16, 1, 1}, {255, 1, 1}, {256, 1, 1}, {256, 1, 3}, {1 << 32, 1, 3}, {1 << 63, 1, 3}, {math.MaxUint64, 1, 1},
		{0, 0, 1}, {0, 5, 1}, {0, 256 + 1, 3}, {0, 1<<32 + 1, 3}, {0, 1 << 32, 1}, {0, math.MaxUint64, 1},
		{0, 1, 0}, {0, 1, 1<<20 + 1}, {0, 1, 1<<32 + 3}, {0, 1, math.MaxUint64},
	} {
		d := string(nums(x[0], x[1], x[2]))
		for name, b := range map[string]string{
			"its dot":         d + "\x00\x01\x00\x01\x03" + timePart + opPart,
			"its dot, in VV":  d + "\x00\x01" + d + timePart + opPart,
			"a parent":        dotPart + "\x01" + d + history + timePart + opPart,
			"a parent behind": dotPart + "\x02\x00\x01\x01" + d + history + timePart + opPart,
			"VV ahead":        dotPart + "\x00\x02" + d + history[4:] + timePart + opPart,
			"VV behind":       dotPart + fathers + "\x03" + history[1:] + d + timePart + opPart,
			"dropped":         dotPart + fathers + history + timePart + "\x04\x01\x01a\x00\x00\x01" + d,
		} {
			takes(t, name, []byte(b+"\x09"), api.ErrForm, 1)
			refused(t, name+", and short", []byte(b[:len(b)-1]), api.ErrShort)
			refused(t, name, []byte(b), api.ErrForm)
		}
	}
}

// P11.2, P1: of a reader that has an error, that is not there, or was not made: the zero commit, and its error.
func TestTakeOfNoReader(t *testing.T) {
	r := code.NewReader(plainPut(good()))
	r.Fail(api.ErrSum)
	if c := Take(r); !isZero(c) || r.Err() != api.ErrSum || r.Left() != len(plainPut(good())) {
		t.Error("of a reader with an error:", c, r.Err(), r.Left())
	}
	if c := Take(nil); !isZero(c) {
		t.Error("of none:", c)
	}
	var none code.Reader
	if c := Take(&none); !isZero(c) || none.Err() != api.ErrNil {
		t.Error("of one that was not made:", c, none.Err())
	}
}

// Rules: no two lists of commits that are taken or read share memory, and none lies in the bytes.
func TestReadOwnMemory(t *testing.T) {
	for _, want := range right() {
		b := plainPut(want)
		one, two := Take(code.NewReader(b)), Take(code.NewReader(b))
		three, _ := Read(b)
		if !isOwn(slices.Concat(memory(one), memory(two), memory(three))) {
			t.Error("shared:", one)
		}
		if !bytes.Equal(b, plainPut(want)) {
			t.Error("changed:", b)
		}
		clear(b)
		if !just(one, want) || !just(two, want) || !just(three, want) {
			t.Error("kept:", one, two, three)
		}
	}
}

// P11.3: Put of it behind nothing; ErrArg, if it may not be.
func TestBytes(t *testing.T) {
	for _, c := range right() {
		b, e := Bytes(c)
		if e != api.OK || !bytes.Equal(b, plainPut(c)) {
			t.Errorf("Bytes(%v) = %x, %d", c, b, e)
		}
		other, _ := Bytes(c)
		clear(other[:cap(other)])
		if !bytes.Equal(b, plainPut(c)) {
			t.Error("two are in one memory")
		}
	}
	for _, c := range wrong() {
		if b, e := Bytes(c); e != api.ErrArg || b != nil {
			t.Errorf("Bytes(%v) = %x, %d", c, b, e)
		}
	}
}

// refused checks that Read tells that error of the bytes, and no commit.
func refused(t *testing.T, name string, b []byte, want api.Errno) {
	t.Helper()
	if c, e := Read(b); !isZero(c) || e != want {
		t.Errorf("%s: Read(%.40x) = %v, %d, want %d", name, b, c, e, want)
	}
}

// P11.3, what follows: each commit that may be has one form, that is read as it; none of its bytes may be missing, and none more be there.
func TestReadAgain(t *testing.T) {
	seen := map[string]api.Commit{}
	for _, c := range right() {
		b, _ := Bytes(c)
		if got, e := Read(b); e != api.OK || !just(got, c) || !May(got) || !Same(got, c) {
			t.Errorf("Read(%x) = %v, %d, want %v", b, got, e, c)
		}
		if other, is := seen[string(b)]; is && !plainSame(other, c) {
			t.Errorf("%v and %v have one form", other, c)
		}
		seen[string(b)] = c
		for n := range b {
			refused(t, "cut", b[:n], api.ErrShort)
		}
		for _, behind := range []string{"\x00", "\x80", strings.Repeat("\xFF", 11), string(b)} {
			refused(t, "more behind", append(bytes.Clone(b), behind...), api.ErrForm)
		}
	}
}

// compared checks that Read and Take are as the document's words are.
func compared(t *testing.T, b []byte) {
	t.Helper()
	was := bytes.Clone(b)
	c, e := Read(b)
	if w, f := plainRead(b); e != f || !just(c, w) || e != api.OK && !isZero(c) {
		t.Fatalf("Read(%x) = %v, %d, want %v, %d", b, c, e, w, f)
	}
	if again, f := Bytes(c); e == api.OK && (f != api.OK || !bytes.Equal(again, b)) {
		t.Fatalf("Read(%x) = %v, whose Bytes are %x, %d", b, c, again, f)
	}
	r := code.NewReader(b)
	c = Take(r)
	if w, left, f := plainTake(b); r.Err() != f || r.Left() != left || !just(c, w) || f != api.OK && !isZero(c) {
		t.Fatalf("Take of %x tells %v, %d with %d left, want %v, %d with %d left", b, c, r.Err(), r.Left(), w, f, left)
	}
	if !bytes.Equal(b, was) {
		t.Fatalf("changed: %x", was)
	}
}

// P11.2, P11.3: of bytes that were changed here and there Read and Take are as the document's words are.
func TestChanged(t *testing.T) {
	r := rand.New(rand.NewSource(4))
	few := []byte{0, 1, 2, 3, 4, 5, 12, 13, 15, 16, 40, 41, 64, 65, 'a', 0x7F, 0x80, 0xFF}
	for _, c := range right() {
		b, _ := Bytes(c)
		for range 300 {
			x := bytes.Clone(b)
			for range 1 + r.Intn(3) {
				at := r.Intn(len(x))
				switch r.Intn(4) {
				case 0:
					x = slices.Insert(x, at, few[r.Intn(len(few))])
				case 1:
					x = slices.Delete(x, at, min(at+1+r.Intn(2), len(x)-1))
				default:
					x[at] = few[r.Intn(len(few))]
				}
			}
			compared(t, x)
		}
	}
}

// P1, P11.2, P11.3: of any bytes Read and Take are as the document's words are.
func FuzzRead(f *testing.F) {
	for _, c := range right() {
		f.Add(plainPut(c))
		f.Add(append(plainPut(c), 0))
	}
	for _, c := range wrong() {
		f.Add(plainPut(c))
	}
	f.Add([]byte(strings.Repeat("\xFF", 11)))
	f.Fuzz(func(t *testing.T, b []byte) { compared(t, b) })
}
