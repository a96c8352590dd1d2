package dot

import (
	"bytes"
	"encoding/binary"
	"math"
	"slices"
	"strings"
	"testing"

	"varve/api"
	"varve/code"
)

// nums tells the bytes of numbers, one behind the other.
func nums(ns ...uint64) []byte {
	var b []byte
	for _, n := range ns {
		b = binary.AppendUvarint(b, n)
	}
	return b
}

// P3.3: how many dots the canonical form has, and each Rep, Inc, Seq.
func TestBytes(t *testing.T) {
	for _, x := range []struct {
		v    api.Vector
		want string
	}{
		{nil, "\x00"},
		{api.Vector{}, "\x00"},
		{wrongDots(), "\x00"},
		{api.Vector{at(0, 1, 3)}, "\x01\x00\x01\x03"},
		{api.Vector{at(0, 1, 2), at(0, 1, 3)}, "\x01\x00\x01\x03"},
		{api.Vector{at(1, 1, 300), at(0, 1, 3)}, "\x02\x00\x01\x03\x01\x01\xAC\x02"},
		{api.Vector{at(15, 4, 1<<20)}, "\x01\x0F\x04\x80\x80\x40"},
		{api.Vector{at(15, 4, 1<<20+1), at(3, 2, 127)}, "\x01\x03\x02\x7F"},
	} {
		if got := Bytes(x.v); string(got) != x.want {
			t.Errorf("Bytes(%v) = %x, want %x", x.v, got, x.want)
		}
	}
	for _, v := range vectors() {
		c := plainOf(v).canon()
		want := nums(uint64(len(c)))
		for _, d := range c {
			want = append(want, nums(uint64(d.Rep), uint64(d.Inc), d.Seq)...)
		}
		if got := Bytes(v); !bytes.Equal(got, want) {
			t.Errorf("Bytes(%v) = %x, want %x", v, got, want)
		}
	}
}

// What follows: bytes are one for each vector, and are read again.
func TestReadAgain(t *testing.T) {
	for _, v := range vectors() {
		b := Bytes(v)
		got, e := Read(b)
		if e != api.OK || !sameVector(got, Canon(v)) {
			t.Errorf("Read(%x) = %v, %d, want %v", b, got, e, Canon(v))
		}
		for _, w := range vectors() {
			if bytes.Equal(b, Bytes(w)) != sameVector(Canon(v), Canon(w)) {
				t.Errorf("%v and %v: %x and %x", v, w, b, Bytes(w))
			}
		}
	}
}

// all64 tells the numbers of a dot of each actor, behind how many there are said to be.
func all64(said uint64) []uint64 {
	ns := []uint64{said}
	for _, a := range actors() {
		ns = append(ns, uint64(a.Rep), uint64(a.Inc), 1)
	}
	return ns
}

// refused checks that Read tells that error of the bytes, and no vector.
func refused(t *testing.T, name string, b []byte, want api.Errno) {
	t.Helper()
	if v, e := Read(b); v != nil || e != want {
		t.Errorf("%s: Read(%.20x) = %v, %d, want %d", name, b, v, e, want)
	}
}

// P3.3: what is told of wrong bytes, and what ahead of what.
func TestReadWrong(t *testing.T) {
	over := strings.Repeat("\xFF", 10)
	for _, x := range []struct {
		name string
		b    string
		want api.Errno
	}{
		{"nothing", "", api.ErrShort},
		{"no end of how many", "\x80", api.ErrShort},
		{"how many, not canonical", "\x80\x00", api.ErrForm},
		{"how many, not canonical, with a dot", "\x81\x00\x00\x01\x03", api.ErrForm},
		{"how many, too great", over + "\x01", api.ErrOver},
		{"no dots, and more behind", "\x00\x00", api.ErrForm},
		{"no dots, and a dot behind", "\x00\x00\x01\x03", api.ErrForm},
		{"no dots, and a broken number behind", "\x00\x80", api.ErrForm},
		{"a dot that is missing", "\x01", api.ErrShort},
		{"a dot without Inc", "\x01\x00", api.ErrShort},
		{"a dot without Seq", "\x01\x00\x01", api.ErrShort},
		{"a dot whose Seq ends within", "\x01\x00\x01\x80", api.ErrShort},
		{"a dot's Rep, not canonical", "\x01\x80\x00\x01\x03", api.ErrForm},
		{"a dot's Rep, too great for a number", "\x01" + over + "\x01\x03", api.ErrOver},
		{"a dot's Inc, too great for a number", "\x01\x00" + over + "\x03", api.ErrOver},
		{"a dot's Seq, too great for a number", "\x01\x00\x01" + over, api.ErrOver},
		{"more behind", "\x01\x00\x01\x03\x00", api.ErrForm},
		{"a broken number behind", "\x01\x00\x01\x03\x80", api.ErrForm},
		{"bytes that are too great for a number behind", "\x01\x00\x01\x03" + over, api.ErrForm},
		{"the second dot missing", "\x02\x00\x01\x03", api.ErrShort},
		{"the second dot short", "\x02\x00\x01\x03\x01\x01", api.ErrShort},
		{"the second dot over", "\x02\x00\x01\x03\x01\x01" + over, api.ErrOver},
		{"the first dot wrong, the second one missing", "\x02\x00\x05\x03", api.ErrForm},
		{"the first dot wrong, the second one over", "\x02\x00\x01\x00" + over, api.ErrForm},
		{"a wrong Rep, Inc missing", "\x01\x10", api.ErrShort},
		{"a wrong Inc, Seq missing", "\x01\x00\x05", api.ErrShort},
		{"a wrong Rep, Seq over", "\x01\x10\x01" + over, api.ErrOver},
		{"the same dot twice", "\x02\x00\x01\x03\x00\x01\x03", api.ErrForm},
		{"the same actor twice, Seq rising", "\x02\x00\x01\x03\x00\x01\x04", api.ErrForm},
		{"Inc falling", "\x02\x00\x02\x03\x00\x01\x04", api.ErrForm},
		{"Rep falling", "\x02\x01\x01\x03\x00\x02\x04", api.ErrForm},
		{"the third one falling", "\x03\x00\x01\x01\x02\x01\x01\x01\x01\x01", api.ErrForm},
		{"the second one falling, the third one missing", "\x03\x01\x01\x01\x00\x01\x01", api.ErrForm},
	} {
		refused(t, x.name, []byte(x.b), x.want)
	}
}

// P3.3: a dot that may not be, also one that might be, if its numbers were cut to fit.
func TestReadWrongDots(t *testing.T) {
	for _, x := range [][3]uint64{
		{16, 1, 1}, {255, 1, 1}, {256, 1, 1}, {257, 1, 1}, {1 << 32, 1, 1}, {1 << 63, 1, 1}, {math.MaxUint64, 1, 1},
		{0, 0, 1}, {0, 5, 1}, {0, 256 + 1, 1}, {0, 1<<32 + 1, 1}, {0, 1 << 32, 1}, {0, math.MaxUint64, 1},
		{0, 1, 0}, {0, 1, 1<<20 + 1}, {0, 1, 1<<32 + 1}, {0, 1, math.MaxUint64},
	} {
		for _, b := range [][]byte{
			nums(1, x[0], x[1], x[2]),
			nums(1, x[0], x[1], x[2], 7),
			nums(2, x[0], x[1], x[2], 15, 4, 1),
			nums(2, x[0], x[1], x[2]),
		} {
			refused(t, "a wrong dot", b, api.ErrForm)
		}
	}
}

// P3.3, P1: a dot of each actor is the most; more than these are said to come, and the call ends all the same.
func TestReadMany(t *testing.T) {
	if v, e := Read(nums(all64(64)...)); e != api.OK || len(v) != 64 || !sameVector(v, Canon(v)) {
		t.Error(len(v), e)
	}
	for _, x := range []struct {
		b    []byte
		want api.Errno
	}{
		{nums(all64(63)...), api.ErrForm},
		{nums(append(all64(64), 0)...), api.ErrForm},
		{nums(all64(65)...), api.ErrShort},
		{nums(append(all64(65), 15, 4)...), api.ErrShort},
		{nums(append(all64(65), 15, 4, 2)...), api.ErrForm},
		{nums(append(all64(65), 15, 5, 1)...), api.ErrForm},
		{nums(append(all64(65), 16, 1, 1)...), api.ErrForm},
		{nums(all64(math.MaxUint64)...), api.ErrShort},
		{nums(math.MaxUint64), api.ErrShort},
		{nums(math.MaxUint64, 0, 1, 3), api.ErrShort},
		{append(nums(math.MaxUint64), make([]byte, 1<<20)...), api.ErrForm},
	} {
		refused(t, "too many", x.b, x.want)
	}
}

// P3.3: of the bytes of a vector none may be missing.
func TestReadCut(t *testing.T) {
	for _, v := range vectors() {
		b := Bytes(v)
		for n := range b {
			refused(t, "cut", b[:n], api.ErrShort)
		}
	}
}

// Rules: what is handed in is not changed, and not kept.
func TestReadOwnMemory(t *testing.T) {
	b := Bytes(api.Vector{at(0, 1, 3), at(1, 1, 300)})
	was := bytes.Clone(b)
	v, _ := Read(b)
	w, _ := Read(b)
	clear(w[:cap(w)])
	if !bytes.Equal(b, was) {
		t.Error("Read changes what was handed in")
	}
	clear(b)
	if !sameVector(v, api.Vector{at(0, 1, 3), at(1, 1, 300)}) {
		t.Error("Read keeps what was handed in, or tells the same memory twice")
	}
	x := api.Vector{at(0, 1, 3)}
	first, second := Bytes(x), Bytes(x)
	clear(first[:cap(first)])
	if string(second) != "\x01\x00\x01\x03" {
		t.Error("Bytes tells the same memory twice")
	}
}

// plainRead is the document's words for Read: all numbers first, and what stops them, then dot by dot.
func plainRead(b []byte) (api.Vector, api.Errno) {
	r := code.NewReader(b)
	var ns []uint64
	ends := []int{r.Left()}
	for r.Err() == api.OK {
		if n := r.Num(); r.Err() == api.OK {
			ns, ends = append(ns, n), append(ends, r.Left())
		}
	}
	if len(ns) == 0 {
		return nil, r.Err()
	}
	var v api.Vector
	last := -1
	for i := uint64(0); i < ns[0]; i++ {
		at := int(1 + 3*i)
		if len(ns) < at+3 {
			return nil, r.Err()
		}
		a := slices.IndexFunc(actors(), func(a api.Actor) bool {
			return uint64(a.Rep) == ns[at] && uint64(a.Inc) == ns[at+1]
		})
		if a <= last || ns[at+2] < 1 || ns[at+2] > 1<<20 {
			return nil, api.ErrForm
		}
		last = a
		v = append(v, api.Dot{Actor: actors()[a], Seq: ns[at+2]})
	}
	if ends[1+3*len(v)] != 0 {
		return nil, api.ErrForm
	}
	return v, api.OK
}

// P3.3, P1: of any bytes Read is as the document's words are.
func FuzzRead(f *testing.F) {
	for _, v := range vectors() {
		b := Bytes(v)
		f.Add(b)
		f.Add(append(b, 0))
		f.Add(b[:len(b)-1])
	}
	f.Add(nums(math.MaxUint64, 0, 1, 3))
	f.Add([]byte("\x02\x00\x01\x03\x00\x01\x04"))
	f.Add([]byte("\x01\x80\x02\x01\x03"))
	f.Add([]byte(strings.Repeat("\xFF", 11)))
	f.Fuzz(func(t *testing.T, b []byte) {
		was := bytes.Clone(b)
		v, e := Read(b)
		if w, g := plainRead(b); e != g || !sameVector(v, w) {
			t.Fatalf("Read(%x) = %v, %d, want %v, %d", b, v, e, w, g)
		}
		if e == api.OK && !bytes.Equal(Bytes(v), b) || e != api.OK && v != nil || !bytes.Equal(b, was) {
			t.Fatalf("Read(%x) = %v, %d", b, v, e)
		}
	})
}

// P1, P3.1, P3.2: of any dots all calls are as the document's words are.
func FuzzVectors(f *testing.F) {
	f.Add([]byte(nil), uint8(0), uint32(1), uint64(1))
	f.Add([]byte("\x00\x01\x03\x00\x01\x02\x01\x01\x05"), uint8(0), uint32(1), uint64(3))
	f.Add([]byte("\x10\x01\x03\x00\x05\x02\x01\x00\xFF"), uint8(16), uint32(5), uint64(0))
	f.Add([]byte("\x00\x01\xFE\x00\x01\xFF\x01\x01\xFE"), uint8(0), uint32(1), uint64(1<<20))
	f.Fuzz(func(t *testing.T, b []byte, rep uint8, inc uint32, seq uint64) {
		var two [2]api.Vector
		for i := 0; i+3 <= len(b); i += 3 {
			d := at(b[i], uint32(b[i+1]), uint64(b[i+2]))
			if d.Seq >= 250 {
				d.Seq += 1<<20 - 254
			}
			two[i/3%2] = append(two[i/3%2], d)
		}
		v, w, d := two[0], two[1], at(rep, inc, seq)
		p, q, one := plainOf(v), plainOf(w), plainOf(api.Vector{d})
		may := one != plain{}
		if May(d) != may || Has(v, d) != (may && one.within(p)) || Within(v, w) != p.within(q) || !sameVector(Canon(v), p.canon()) {
			t.Fatalf("of %v, %v and %v", v, w, d)
		}
		if !sameVector(Join(v, w), p.pick(q, greater).canon()) || !sameVector(Meet(v, w), p.pick(q, lesser).canon()) {
			t.Fatalf("of %v and %v: %v, %v", v, w, Join(v, w), Meet(v, w))
		}
		next, e := Next(v, d.Actor)
		want := api.OK
		if !MayActor(d.Actor) {
			want = api.ErrArg
		} else if Has(v, api.Dot{Actor: d.Actor, Seq: 1 << 20}) {
			want = api.ErrOver
		}
		if e != want || e == api.OK && next != (api.Dot{Actor: d.Actor, Seq: Get(v, d.Actor) + 1}) || e != api.OK && next != (api.Dot{}) {
			t.Fatalf("Next(%v, %v) = %v, %d", v, d.Actor, next, e)
		}
	})
}
