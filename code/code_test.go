package code

import (
	"bytes"
	"encoding/binary"
	"math"
	"math/big"
	"strings"
	"testing"

	"varve/api"
)

// numbers tells numbers at all edges: around each power of two.
func numbers() []uint64 {
	ns := []uint64{0, 300, math.MaxUint64, 0xDEADBEEFCAFE}
	for bit := range 64 {
		p := uint64(1) << bit
		ns = append(ns, p-1, p, p+1)
	}
	return ns
}

// fresh makes n bytes by a short rule, the same each time.
func fresh(n int) []byte {
	b := make([]byte, n)
	x := uint32(n)*2654435761 + 1
	for i := range b {
		x = x*1664525 + 1013904223
		b[i] = byte(x >> 24)
	}
	return b
}

// P2.1: the document's examples, and numbers whose bytes are plain to see.
func TestNumKnown(t *testing.T) {
	for _, x := range []struct {
		n    uint64
		want string
	}{
		{0, "\x00"},
		{1, "\x01"},
		{127, "\x7F"},
		{128, "\x80\x01"},
		{300, "\xAC\x02"},
		{16383, "\xFF\x7F"},
		{16384, "\x80\x80\x01"},
		{1 << 63, "\x80\x80\x80\x80\x80\x80\x80\x80\x80\x01"},
		{1<<63 - 1, "\xFF\xFF\xFF\xFF\xFF\xFF\xFF\xFF\x7F"},
		{math.MaxUint64, "\xFF\xFF\xFF\xFF\xFF\xFF\xFF\xFF\xFF\x01"},
	} {
		if got := Num(nil, x.n); string(got) != x.want {
			t.Errorf("Num(%d) = %x, want %x", x.n, got, x.want)
		}
	}
	for _, n := range numbers() {
		if got, want := Num(nil, n), binary.AppendUvarint(nil, n); !bytes.Equal(got, want) {
			t.Errorf("Num(%d) = %x, want %x", n, got, want)
		}
	}
}

// P2.1: the document's examples, and both signs of all edges.
func TestIntKnown(t *testing.T) {
	for _, x := range []struct {
		n    int64
		want string
	}{
		{0, "\x00"},
		{-1, "\x01"},
		{1, "\x02"},
		{-2, "\x03"},
		{63, "\x7E"},
		{-64, "\x7F"},
		{64, "\x80\x01"},
		{-65, "\x81\x01"},
		{math.MaxInt64, "\xFE\xFF\xFF\xFF\xFF\xFF\xFF\xFF\xFF\x01"},
		{math.MinInt64, "\xFF\xFF\xFF\xFF\xFF\xFF\xFF\xFF\xFF\x01"},
	} {
		if got := Int(nil, x.n); string(got) != x.want {
			t.Errorf("Int(%d) = %x, want %x", x.n, got, x.want)
		}
	}
	for _, u := range numbers() {
		for _, n := range []int64{int64(u), -int64(u)} {
			if got, want := Int(nil, n), binary.AppendVarint(nil, n); !bytes.Equal(got, want) {
				t.Errorf("Int(%d) = %x, want %x", n, got, want)
			}
		}
	}
}

// P2.1: how many bytes a text has, and they, whatever they are.
func TestTextKnown(t *testing.T) {
	for _, x := range []struct{ s, want string }{
		{"", "\x00"},
		{"ab", "\x02ab"},
		{"\x00\xFF", "\x02\x00\xFF"},
		{"ä", "\x02\xC3\xA4"},
		{strings.Repeat("x", 127), "\x7F" + strings.Repeat("x", 127)},
		{strings.Repeat("x", 128), "\x80\x01" + strings.Repeat("x", 128)},
		{strings.Repeat("x", 300), "\xAC\x02" + strings.Repeat("x", 300)},
	} {
		if got := Text(nil, x.s); string(got) != x.want {
			t.Errorf("Text(%q) = %q, want %q", x.s, got, x.want)
		}
	}
}

// P2.1: what is told begins with b, and b stays as it is, whatever room is behind it.
func TestBehind(t *testing.T) {
	for _, room := range []int{0, 1, 2, 100} {
		for n := range 5 {
			b := append(make([]byte, 0, n+room), fresh(n)...)
			was := bytes.Clone(b)
			for _, x := range []struct{ got, want []byte }{
				{Num(b[:n:n], 300), []byte("\xAC\x02")},
				{Int(b[:n:n], -65), []byte("\x81\x01")},
				{Text(b[:n:n], "ab"), []byte("\x02ab")},
				{bytes.Clone(Num(b, 300)), []byte("\xAC\x02")},
				{bytes.Clone(Int(b, -65)), []byte("\x81\x01")},
				{bytes.Clone(Text(b, "ab")), []byte("\x02ab")},
			} {
				if want := append(bytes.Clone(was), x.want...); !bytes.Equal(x.got, want) {
					t.Errorf("behind %d bytes with room of %d: %x, want %x", n, room, x.got, want)
				}
			}
			if !bytes.Equal(b, was) {
				t.Errorf("%d bytes with room of %d: changed", n, room)
			}
		}
	}
}

// What follows: each number is read again, and no other bytes are read as it.
func TestNumReadAgain(t *testing.T) {
	for _, n := range numbers() {
		for _, behind := range []string{"", "\x00", "\xFF\xFF"} {
			b := append(Num(nil, n), behind...)
			r := NewReader(b)
			if got := r.Num(); got != n || r.Err() != api.OK || r.Left() != len(behind) {
				t.Errorf("Num of %x = %d, %d, %d left", b, got, r.Err(), r.Left())
			}
			i := int64(n)
			r = NewReader(append(Int(nil, i), behind...))
			if got := r.Int(); got != i || r.Err() != api.OK || r.Left() != len(behind) {
				t.Errorf("Int of %d = %d, %d, %d left", i, got, r.Err(), r.Left())
			}
		}
	}
	for x := range 1 << 16 {
		b := []byte{byte(x), byte(x >> 8)}
		r := NewReader(b)
		if n := r.Num(); r.Err() == api.OK && !bytes.Equal(Num(nil, n), b[:2-r.Left()]) {
			t.Errorf("%x is read as %d, whose bytes are others", b, n)
		}
	}
}

// wrongNumbers tells bytes that begin with no number, and what is told of them.
func wrongNumbers() map[string]api.Errno {
	high := strings.Repeat("\x80", 9)
	full := strings.Repeat("\xFF", 9)
	return map[string]api.Errno{
		"":                                     api.ErrShort,
		"\x80":                                 api.ErrShort,
		"\xFF\xFF":                             api.ErrShort,
		high:                                   api.ErrShort,
		full:                                   api.ErrShort,
		"\x80\x00":                             api.ErrForm,
		"\xFF\x00":                             api.ErrForm,
		"\x80\x80\x00\x01":                     api.ErrForm,
		high[:8] + "\x00":                      api.ErrForm,
		high + "\x00":                          api.ErrForm,
		full + "\x00":                          api.ErrForm,
		full + "\x00\x80":                      api.ErrForm,
		high + "\x02":                          api.ErrOver,
		high + "\x03":                          api.ErrOver,
		high + "\x40":                          api.ErrOver,
		full + "\x02":                          api.ErrOver,
		full + "\x7F":                          api.ErrOver,
		high + "\x80":                          api.ErrOver,
		high + "\x81":                          api.ErrOver,
		full + "\xFF":                          api.ErrOver,
		high + "\x80\x00":                      api.ErrOver,
		high + "\x80\x01":                      api.ErrOver,
		full + full + full:                     api.ErrOver,
		strings.Repeat("\x80", 200) + "\x00":   api.ErrOver,
		strings.Repeat("\x80", 64000) + "\x0C": api.ErrOver,
	}
}

// P2.2: what is wrong with a number is told by all that begins with one, and no byte goes.
func TestWrongNumbers(t *testing.T) {
	for s, want := range wrongNumbers() {
		check := func(name string, r *Reader, zero bool) {
			t.Helper()
			if !zero || r.Err() != want || r.Left() != len(s) {
				t.Errorf("%s of %.20x: zero %v, error %d, %d left; want error %d, %d left", name, s, zero, r.Err(), r.Left(), want, len(s))
			}
		}
		r := NewReader([]byte(s))
		check("Num", r, r.Num() == 0)
		r = NewReader([]byte(s))
		check("Int", r, r.Int() == 0)
		for _, most := range []int{math.MinInt, -1, 0, 1, math.MaxInt} {
			r = NewReader([]byte(s))
			check("Text", r, r.Text(most) == "")
		}
		if b, n, e := Unframe([]byte(s)); b != nil || n != 0 || e != want {
			t.Errorf("Unframe of %.20x = %x, %d, %d; want error %d", s, b, n, e, want)
		}
	}
}

// P2.2: a text of at most so many bytes, and what is told ahead of what.
func TestTextRead(t *testing.T) {
	long := string(Num(nil, math.MaxUint64))
	for _, x := range []struct {
		b    string
		most int
		want string
		e    api.Errno
	}{
		{"\x00", 0, "", api.OK},
		{"\x00", -1, "", api.OK},
		{"\x00", math.MinInt, "", api.OK},
		{"\x00ab", 5, "", api.OK},
		{"\x02ab", 2, "ab", api.OK},
		{"\x02ab", 3, "ab", api.OK},
		{"\x02ab", math.MaxInt, "ab", api.OK},
		{"\x02abc", 2, "ab", api.OK},
		{"\x02\x00\xFF", 2, "\x00\xFF", api.OK},
		{"\x02ab", 1, "", api.ErrLong},
		{"\x02ab", 0, "", api.ErrLong},
		{"\x01a", -1, "", api.ErrLong},
		{"\x01a", math.MinInt, "", api.ErrLong},
		{"\x02", 1, "", api.ErrLong},
		{"\x02", 2, "", api.ErrShort},
		{"\x02a", 2, "", api.ErrShort},
		{"\x01", 1, "", api.ErrShort},
		{"\x80\x01" + strings.Repeat("x", 127), 128, "", api.ErrShort},
		{"\x80\x01" + strings.Repeat("x", 128), 127, "", api.ErrLong},
		{"\x80\x01" + strings.Repeat("x", 128), 128, strings.Repeat("x", 128), api.OK},
		{long, math.MaxInt, "", api.ErrLong},
		{long + "ab", 2, "", api.ErrLong},
		{string(Num(nil, math.MaxInt64)) + "ab", math.MaxInt, "", api.ErrShort},
		{string(Num(nil, 1<<32)) + "ab", math.MaxInt, "", api.ErrShort},
		{string(Num(nil, 1<<32+2)) + "ab", 2, "", api.ErrLong},
	} {
		r := NewReader([]byte(x.b))
		left := len(x.b)
		if x.e == api.OK {
			left -= len(Text(nil, x.want))
		}
		if got := r.Text(x.most); got != x.want || r.Err() != x.e || r.Left() != left {
			t.Errorf("Text(%d) of %.20q = %.20q, %d, %d left; want %.20q, %d, %d", x.most, x.b, got, r.Err(), r.Left(), x.want, x.e, left)
		}
	}
}

// P2.2: one behind the other, to the end; behind that there is nothing more.
func TestReadOn(t *testing.T) {
	b := Text(Int(Num(Text(Num(nil, 7), "ab"), 300), -300), "")
	r := NewReader(b)
	if r.Err() != api.OK || r.Left() != len(b) {
		t.Error("at first:", r.Err(), r.Left())
	}
	if r.Num() != 7 || r.Text(2) != "ab" || r.Num() != 300 || r.Int() != -300 || r.Text(0) != "" {
		t.Error("read otherwise")
	}
	if r.Err() != api.OK || r.Left() != 0 {
		t.Error("at the end:", r.Err(), r.Left())
	}
	if r.Num() != 0 || r.Err() != api.ErrShort || r.Left() != 0 {
		t.Error("behind the end:", r.Err())
	}
}

// P2.2: behind the first error nothing is read, and it stays.
func TestFirstErrorStays(t *testing.T) {
	breaks := map[api.Errno]func(r *Reader){
		api.ErrLong: func(r *Reader) { r.Text(0) },
		api.ErrForm: func(r *Reader) { r.Fail(api.ErrForm) },
		api.ErrKind: func(r *Reader) { r.Fail(api.ErrKind) },
		api.Errno(-5): func(r *Reader) {
			r.Fail(api.Errno(-5))
			r.Fail(api.ErrShort)
		},
	}
	for e, fail := range breaks {
		r := NewReader([]byte("\x05\x01a\x03\x04"))
		if r.Num() != 5 {
			t.Error("Num")
		}
		fail(r)
		for range 2 {
			if r.Num() != 0 || r.Int() != 0 || r.Text(9) != "" {
				t.Error("reads on behind", e)
			}
			r.Fail(api.ErrState)
			r.Fail(api.OK)
			if r.Err() != e || r.Left() != 4 {
				t.Errorf("behind %d: %d, %d left", e, r.Err(), r.Left())
			}
		}
	}
}

// P2.2: no error is none.
func TestFailOK(t *testing.T) {
	r := NewReader([]byte{5})
	r.Fail(api.OK)
	if r.Err() != api.OK || r.Num() != 5 {
		t.Error("Fail(OK) is an error")
	}
	r.Fail(api.ErrSum)
	if r.Err() != api.ErrSum {
		t.Error("Fail:", r.Err())
	}
}

// P2.2: no bytes are a reader yet.
func TestReaderOfNothing(t *testing.T) {
	for _, b := range [][]byte{nil, {}} {
		r := NewReader(b)
		if r == nil || r.Err() != api.OK || r.Left() != 0 {
			t.Fatal("a reader of nothing is none")
		}
		if r.Text(5) != "" || r.Err() != api.ErrShort {
			t.Error("Text of nothing:", r.Err())
		}
	}
}

// P2.2: one that is not there, or was not made.
func TestReaderNotThere(t *testing.T) {
	for _, r := range []*Reader{nil, {}, new(Reader)} {
		for range 2 {
			if r.Err() != api.ErrNil || r.Left() != 0 || r.Num() != 0 || r.Int() != 0 || r.Text(5) != "" {
				t.Error("none tells something:", r.Err())
			}
			r.Fail(api.ErrSum)
			r.Fail(api.OK)
		}
	}
}

// P2.2, Rules: what is handed in is not changed, and not kept; readers don't touch one another.
func TestReaderOwnMemory(t *testing.T) {
	b := Text(Text(Num(nil, 300), "ab"), "cd")
	was := bytes.Clone(b)
	r, other := NewReader(b), NewReader(b)
	if other.Num() != 300 || other.Text(2) != "ab" || !bytes.Equal(b, was) {
		t.Error("reading changes what was handed in")
	}
	clear(b)
	n, s := r.Num(), r.Text(2)
	if n != 300 || s != "ab" || r.Text(2) != "cd" || r.Err() != api.OK {
		t.Error("a reader keeps what was handed in")
	}
}

// P2.3: how many bytes the body has, it, and the sum of all ahead.
func TestFrameKnown(t *testing.T) {
	for _, x := range []struct{ b, want string }{
		{"", "\x00\x8D\xEF\x02\xD2"},
		{"\x00", "\x01\x00\xBE\x23\xC2\x58"},
		{"ab", "\x02ab\xEE\x57\x9F\x23"},
		{"12345678", "\x0812345678\x70\xB3\x13\xA2"},
	} {
		got := Frame([]byte(x.b))
		if string(got) != x.want {
			t.Errorf("Frame(%q) = %x, want %x", x.b, got, x.want)
		}
	}
	if !bytes.Equal(Frame(nil), Frame([]byte{})) {
		t.Error("nothing and no bytes differ")
	}
}

// P2.3: bodies of all lengths' edges, with and without bytes behind their frames.
func TestUnframe(t *testing.T) {
	for _, n := range []int{0, 1, 2, 126, 127, 128, 129, 16383, 16384, api.MaxFrame - 1, api.MaxFrame} {
		body := fresh(n)
		f := Frame(body)
		if want := len(Num(nil, uint64(n))) + n + 4; len(f) != want {
			t.Fatalf("frame of %d has %d bytes, want %d", n, len(f), want)
		}
		for _, behind := range []string{"", "\x00", "\xFFabcdef", string(f[:3])} {
			b, size, e := Unframe(append(bytes.Clone(f), behind...))
			if !bytes.Equal(b, body) || size != len(f) || e != api.OK {
				t.Errorf("Unframe of %d: %d bytes, %d, %d", n, len(b), size, e)
			}
		}
	}
	for _, n := range []int{api.MaxFrame + 1, api.MaxFrame + 100, 2 * api.MaxFrame} {
		if f := Frame(make([]byte, n)); f != nil {
			t.Errorf("a body of %d bytes has a frame", n)
		}
	}
}

// P2.3: frames one behind the other are taken one by one.
func TestUnframeOn(t *testing.T) {
	b := append(append(Frame([]byte("ab")), Frame(nil)...), Frame([]byte("c"))...)
	var got []string
	for len(b) > 0 {
		body, n, e := Unframe(b)
		if e != api.OK {
			t.Fatal(e)
		}
		got = append(got, string(body))
		b = b[n:]
	}
	if strings.Join(got, ",") != "ab,,c" {
		t.Error(got)
	}
}

// P2.3: what is told of wrong frames, and what ahead of what.
func TestUnframeWrong(t *testing.T) {
	over := Num(nil, api.MaxFrame+1)
	sum := Frame([]byte("abc"))
	sum[len(sum)-1]++
	turned := Frame([]byte("abc"))
	for i, j := len(turned)-4, len(turned)-1; i < j; i, j = i+1, j-1 {
		turned[i], turned[j] = turned[j], turned[i]
	}
	// The sum is of the length too, not of the body alone.
	alone := append([]byte{3}, binary.LittleEndian.AppendUint32([]byte("abc"), 0x352441C2)...)
	for _, x := range []struct {
		name string
		b    []byte
		want api.Errno
	}{
		{"nothing", nil, api.ErrShort},
		{"a length above the most, alone", over, api.ErrLong},
		{"a length above the most, with all of it", append(over, make([]byte, api.MaxFrame+5)...), api.ErrLong},
		{"the greatest length", Num(nil, math.MaxUint64), api.ErrLong},
		{"a length of 2^63", append(Num(nil, 1<<63), 1, 2, 3), api.ErrLong},
		{"the most, alone", Num(nil, api.MaxFrame), api.ErrShort},
		{"the most, a byte short", append(Num(nil, api.MaxFrame), make([]byte, api.MaxFrame+3)...), api.ErrShort},
		{"the most, with a wrong sum", append(Num(nil, api.MaxFrame), make([]byte, api.MaxFrame+4)...), api.ErrSum},
		{"a length of 0, alone", []byte{0}, api.ErrShort},
		{"no sum", []byte("\x03abc"), api.ErrShort},
		{"a sum a byte short", []byte("\x03abc\x00\x00\x00"), api.ErrShort},
		{"a wrong sum", sum, api.ErrSum},
		{"a sum the other way round", turned, api.ErrSum},
		{"a sum of the body alone", alone, api.ErrSum},
		{"zeros", make([]byte, 5), api.ErrSum},
	} {
		if b, n, e := Unframe(x.b); b != nil || n != 0 || e != x.want {
			t.Errorf("%s: %d bytes, %d, %d; want %d", x.name, len(b), n, e, x.want)
		}
	}
}

// P2.3, what follows: of all bytes of a frame none may be another one, and none may be missing.
func TestUnframeChanged(t *testing.T) {
	for _, n := range []int{0, 1, 2, 40, 130} {
		f := Frame(fresh(n))
		for at := range f {
			for x := 1; x < 256; x++ {
				f[at] ^= byte(x)
				if b, size, e := Unframe(f); e == api.OK || b != nil || size != 0 {
					t.Errorf("frame of %d, byte %d changed by %02X: %d", n, at, x, e)
				}
				f[at] ^= byte(x)
			}
			if b, size, e := Unframe(f[:at]); e != api.ErrShort || b != nil || size != 0 {
				t.Errorf("frame of %d, cut at %d: %d", n, at, e)
			}
		}
	}
}

// P2.3, Rules: bodies and frames are in memory of their own, and what is handed in stays.
func TestFrameOwnMemory(t *testing.T) {
	all := fresh(20)
	was := bytes.Clone(all)
	f := Frame(all[:10])
	if !bytes.Equal(all, was) {
		t.Error("Frame changes what is handed in, or what is behind it")
	}
	clear(all)
	whole := append(bytes.Clone(f), 1, 2, 3)
	kept := bytes.Clone(whole)
	body, _, e := Unframe(whole)
	again, _, _ := Unframe(whole)
	if e != api.OK || !bytes.Equal(body, was[:10]) || !bytes.Equal(whole, kept) {
		t.Error("Frame keeps what was handed in, or Unframe changes it", e)
	}
	clear(again[:cap(again)])
	if !bytes.Equal(whole, kept) || !bytes.Equal(body, was[:10]) {
		t.Error("what Unframe tells writes into what was handed in, or into what it told before")
	}
	clear(whole)
	if !bytes.Equal(body, was[:10]) {
		t.Error("Unframe keeps what was handed in")
	}
}

// plainNumber is the document's words for a number's reading, by numbers of any size.
func plainNumber(b []byte) (uint64, int, api.Errno) {
	end := -1
	for i, x := range b {
		if x < 128 {
			end = i
			break
		}
	}
	if end < 0 && len(b) < 10 {
		return 0, 0, api.ErrShort
	}
	if end < 0 || end >= 10 {
		return 0, 0, api.ErrOver
	}
	n := new(big.Int)
	for i := end; i >= 0; i-- {
		n.Lsh(n, 7).Or(n, big.NewInt(int64(b[i]&127)))
	}
	if !n.IsUint64() {
		return 0, 0, api.ErrOver
	}
	if end > 0 && b[end] == 0 {
		return 0, 0, api.ErrForm
	}
	return n.Uint64(), end + 1, api.OK
}

// plainReader is the document's words for a reader.
type plainReader struct {
	b []byte
	e api.Errno
}

// take does what the reader does that reads a number (most -1), or a text.
func (p *plainReader) take(most int) (uint64, string) {
	if p.e != api.OK {
		return 0, ""
	}
	n, size, e := plainNumber(p.b)
	s := ""
	if e == api.OK && most >= 0 {
		if n > uint64(most) {
			e = api.ErrLong
		} else if n > uint64(len(p.b)-size) {
			e = api.ErrShort
		} else {
			s = string(p.b[size : size+int(n)])
		}
	}
	if p.e = e; e != api.OK {
		return 0, ""
	}
	p.b = p.b[size+len(s):]
	return n, s
}

// P1, P2.2, P2.3: of any bytes, by any steps, all ends, none panics, and is as the document's words are.
func FuzzRead(f *testing.F) {
	f.Add([]byte(nil), []byte("nit"))
	f.Add([]byte("\x02ab\x03cd"), []byte("tit"))
	f.Add([]byte("\xAC\x02\x01\x80\x00"), []byte("nin"))
	f.Add(Frame([]byte("12345678")), []byte("tttt"))
	f.Add([]byte("\xFF\xFF\xFF\xFF\xFF\xFF\xFF\xFF\xFF\x02"), []byte("i"))
	for s := range wrongNumbers() {
		f.Add([]byte(s[:min(len(s), 30)]), []byte("\x00"))
	}
	f.Fuzz(func(t *testing.T, b, steps []byte) {
		r, p := NewReader(b), &plainReader{b: b}
		for _, x := range steps {
			switch x % 3 {
			case 0:
				if n, _ := p.take(-1); r.Num() != n {
					t.Errorf("Num in %x", b)
				}
			case 1:
				n, _ := p.take(-1)
				want := int64(n / 2)
				if n%2 == 1 {
					want = -1 - want
				}
				if r.Int() != want {
					t.Errorf("Int in %x", b)
				}
			case 2:
				if _, s := p.take(int(x)); r.Text(int(x)) != s {
					t.Errorf("Text in %x", b)
				}
			}
			if r.Err() != p.e || r.Left() != len(p.b) {
				t.Errorf("in %x: %d, %d left; want %d, %d", b, r.Err(), r.Left(), p.e, len(p.b))
			}
		}
		body, n, e := Unframe(b)
		if e == api.OK && !bytes.Equal(Frame(body), b[:n]) || e != api.OK && (body != nil || n != 0) {
			t.Errorf("Unframe(%x) = %x, %d, %d", b, body, n, e)
		}
		if body, n, e := Unframe(append(Frame(b), steps...)); e != api.OK || !bytes.Equal(body, b) || n != len(Frame(b)) {
			t.Errorf("Frame(%x) is not read again", b)
		}
	})
}
