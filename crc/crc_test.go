package crc

import (
	"bytes"
	"hash/crc32"
	"testing"
)

// plain is the document's words for CRC-32, bit by bit, from a sum on.
func plain(sum uint32, b []byte) uint32 {
	reg := ^sum
	for _, x := range b {
		reg ^= uint32(x)
		for range 8 {
			out := reg & 1
			reg >>= 1
			if out == 1 {
				reg ^= 0xEDB88320
			}
		}
	}
	return ^reg
}

// some makes n bytes by a short rule, the same each time.
func some(n int) []byte {
	b := make([]byte, n)
	x := uint32(n)*2654435761 + 1
	for i := range b {
		x = x*1664525 + 1013904223
		b[i] = byte(x >> 24)
	}
	return b
}

// P1.1: the document's examples, and sums that are known elsewhere.
func TestSumKnown(t *testing.T) {
	for _, x := range []struct {
		b    string
		want uint32
	}{
		{"", 0},
		{"123456789", 0xCBF43926},
		{"\x00", 0xD202EF8D},
		{"\xff", 0xFF000000},
		{"\x00\x00\x00\x00", 0x2144DF1C},
		{"\xff\xff\xff\xff", 0xFFFFFFFF},
		{"a", 0xE8B7BE43},
		{"abc", 0x352441C2},
		{"The quick brown fox jumps over the lazy dog", 0x414FA339},
	} {
		if got := Sum([]byte(x.b)); got != x.want {
			t.Errorf("Sum(%q) = %08X, want %08X", x.b, got, x.want)
		}
	}
	if got := Sum(nil); got != 0 {
		t.Errorf("Sum(nil) = %08X, want 0", got)
	}
}

// P1.1: each single byte (each entry of the table), and bytes of many lengths.
func TestSumAsDefined(t *testing.T) {
	for x := range 256 {
		b := []byte{byte(x)}
		if got, want := Sum(b), plain(0, b); got != want {
			t.Errorf("Sum of byte %02X = %08X, want %08X", x, got, want)
		}
	}
	for n := range 300 {
		b := some(n)
		if got, want := Sum(b), plain(0, b); got != want {
			t.Errorf("Sum of %d bytes = %08X, want %08X", n, got, want)
		}
	}
	b := some(1 << 20)
	if got, want := Sum(b), crc32.ChecksumIEEE(b); got != want {
		t.Errorf("Sum of %d bytes = %08X, want %08X", len(b), got, want)
	}
}

// P1.1: a sum goes on behind each cut as if there was none.
func TestMoreGoesOn(t *testing.T) {
	b := some(200)
	want := Sum(b)
	for cut := range len(b) + 1 {
		if got := More(Sum(b[:cut]), b[cut:]); got != want {
			t.Errorf("cut at %d: %08X, want %08X", cut, got, want)
		}
	}
	sum := Sum(nil)
	for _, x := range b {
		sum = More(sum, []byte{x})
	}
	if sum != want {
		t.Errorf("byte by byte: %08X, want %08X", sum, want)
	}
}

// P1.1: each number is the sum of some bytes, so More takes all of them.
func TestMoreOfAnySum(t *testing.T) {
	for _, sum := range []uint32{0, 1, 0x80000000, 0xEDB88320, 0xFFFFFFFF, 0xDEADBEEF} {
		for _, none := range [][]byte{nil, {}} {
			if got := More(sum, none); got != sum {
				t.Errorf("More(%08X, nothing) = %08X", sum, got)
			}
		}
		for n := range 20 {
			b := some(n)
			if got, want := More(sum, b), plain(sum, b); got != want {
				t.Errorf("More(%08X, %d bytes) = %08X, want %08X", sum, n, got, want)
			}
		}
	}
}

// P1.2: the bytes, and their sum behind them, the lowest byte first.
func TestAppend(t *testing.T) {
	for _, x := range []struct{ b, want string }{
		{"", "\x00\x00\x00\x00"},
		{"a", "a\x43\xBE\xB7\xE8"},
		{"123456789", "123456789\x26\x39\xF4\xCB"},
	} {
		if got := Append([]byte(x.b)); string(got) != x.want {
			t.Errorf("Append(%q) = %q, want %q", x.b, got, x.want)
		}
	}
	if got := Append(nil); !bytes.Equal(got, make([]byte, 4)) {
		t.Errorf("Append(nil) = %q", got)
	}
	for n := range 300 {
		b := some(n)
		s := plain(0, b)
		want := append(bytes.Clone(b), byte(s), byte(s>>8), byte(s>>16), byte(s>>24))
		if got := Append(b); !bytes.Equal(got, want) {
			t.Errorf("Append of %d bytes = %x, want %x", n, got, want)
		}
	}
}

// P1.2: what Append tells is in memory of its own, whatever room is behind the bytes.
func TestAppendOwnMemory(t *testing.T) {
	for n := range 40 {
		all := some(64)
		was := bytes.Clone(all)
		got := Append(all[:n])
		if !bytes.Equal(all, was) {
			t.Fatalf("Append of %d of 64 bytes changed what it was handed, or what is behind it", n)
		}
		told := bytes.Clone(got)
		for i := range all {
			all[i] ^= 0xFF
		}
		if !bytes.Equal(got, told) {
			t.Fatalf("Append of %d of 64 bytes shares memory with them", n)
		}
		clear(got[:cap(got)])
		for i := range all {
			if all[i] != was[i]^0xFF {
				t.Fatalf("what Append of %d of 64 bytes told writes into them", n)
			}
		}
	}
}

// P1.2: two answers for the same bytes share no memory.
func TestAppendTwice(t *testing.T) {
	b := some(10)
	x, y := Append(b), Append(b)
	clear(x)
	if !Ends(y) || !bytes.Equal(y[:10], b) {
		t.Error("two answers share memory")
	}
}

// P1.2: fewer than four bytes end in no sum, four zeros in that of nothing.
func TestEndsShort(t *testing.T) {
	if Ends(nil) {
		t.Error("Ends(nil)")
	}
	for n := range 4 {
		if Ends(make([]byte, n, 8)) || Ends(bytes.Repeat([]byte{0xFF}, n)) {
			t.Errorf("Ends of %d bytes", n)
		}
	}
	if !Ends(make([]byte, 4)) {
		t.Error("four zeros are the sum of nothing")
	}
	if Ends([]byte{0, 0, 0, 1}) || Ends([]byte{1, 0, 0, 0}) || Ends([]byte{0xFF, 0xFF, 0xFF, 0xFF}) {
		t.Error("four other bytes are not")
	}
}

// P1.2: the sum's bytes the other way round, or ahead of the bytes, are none.
func TestEndsWrongForm(t *testing.T) {
	for _, wrong := range []string{
		"a\xE8\xB7\xBE\x43",
		"\x43\xBE\xB7\xE8a",
		"a\xBC\x41\x48\x17", // its bits turned
		"a",
		"a\x43\xBE\xB7",
		"a\x43\xBE\xB7\xE8\x00",
		"123456789",
	} {
		if Ends([]byte(wrong)) {
			t.Errorf("Ends(%q)", wrong)
		}
	}
}

// What follows: what Append tells ends so; with one byte of it another one it does not.
func TestEndsOfAppend(t *testing.T) {
	for _, n := range []int{0, 1, 2, 3, 4, 5, 20, 64} {
		b := Append(some(n))
		if !Ends(b) {
			t.Errorf("Append of %d bytes does not end so", n)
		}
		for at := range b {
			for x := 1; x < 256; x++ {
				b[at] ^= byte(x)
				if Ends(b) {
					t.Errorf("%d bytes, byte %d changed by %02X: ends so", n, at, x)
				}
				b[at] ^= byte(x)
			}
		}
	}
	for n := range 300 {
		if b := some(n); !Ends(Append(b)) || !Ends(Append(Append(b))) {
			t.Errorf("Append of %d bytes does not end so", n)
		}
	}
}

// DOC.md, Rules: what is handed in is not changed; the same call answers the same.
func TestHandedInStays(t *testing.T) {
	b := Append(some(50))
	was := bytes.Clone(b)
	for range 2 {
		if Sum(b) != plain(0, was) || More(7, b) != plain(7, was) || !Ends(b) {
			t.Error("a second call answers otherwise")
		}
		Append(b)
	}
	if !bytes.Equal(b, was) {
		t.Error("what was handed in is changed")
	}
}

// P1: no bytes, whatever they are, make a call panic.
func FuzzAll(f *testing.F) {
	f.Add(uint32(0), []byte(nil))
	f.Add(uint32(1), []byte("123"))
	f.Add(^uint32(0), []byte("123456789\x26\x39\xF4\xCB"))
	f.Fuzz(func(t *testing.T, sum uint32, b []byte) {
		if Sum(b) != crc32.ChecksumIEEE(b) || More(sum, b) != plain(sum, b) || !Ends(Append(b)) {
			t.Errorf("wrong for %08X, %x", sum, b)
		}
		n := len(b) - 4
		want := n >= 0 && bytes.Equal(Append(b[:max(n, 0)]), b)
		if Ends(b) != want {
			t.Errorf("Ends(%x) is %v", b, !want)
		}
	})
}
