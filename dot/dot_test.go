package dot

import (
	"math"
	"math/rand"
	"slices"
	"testing"

	"varve/api"
)

// at tells the dot of these numbers.
func at(rep uint8, inc uint32, seq uint64) api.Dot {
	return api.Dot{Actor: api.Actor{Rep: rep, Inc: inc}, Seq: seq}
}

// actors tells all actors that may be, in order.
func actors() []api.Actor {
	var as []api.Actor
	for rep := range uint8(16) {
		for inc := uint32(1); inc <= 4; inc++ {
			as = append(as, api.Actor{Rep: rep, Inc: inc})
		}
	}
	return as
}

// wrongActors tells actors that may not be.
func wrongActors() []api.Actor {
	return []api.Actor{
		{}, {Rep: 15}, {Inc: 5}, {Rep: 15, Inc: 5}, {Inc: math.MaxUint32}, {Inc: 1<<16 + 1},
		{Rep: 16, Inc: 1}, {Rep: 16, Inc: 4}, {Rep: 17, Inc: 2}, {Rep: 128, Inc: 1}, {Rep: 255, Inc: 1}, {Rep: 255},
	}
}

// wrongDots tells dots that may not be.
func wrongDots() []api.Dot {
	ds := []api.Dot{
		at(0, 1, 0), at(15, 4, 0), at(0, 1, 1<<20+1), at(15, 4, 1<<20+1), at(3, 2, 1<<32+1), at(3, 2, math.MaxUint64),
	}
	for _, a := range wrongActors() {
		ds = append(ds, api.Dot{Actor: a, Seq: 1}, api.Dot{Actor: a, Seq: 1 << 20}, api.Dot{Actor: a})
	}
	return ds
}

// P3.1: an actor may be, if Rep is 0 to 15, and Inc is 1 to 4.
func TestMayActor(t *testing.T) {
	for rep := range 256 {
		for inc := range uint32(20) {
			a := api.Actor{Rep: uint8(rep), Inc: inc}
			if got, want := MayActor(a), rep <= 15 && inc >= 1 && inc <= 4; got != want {
				t.Errorf("MayActor(%v) is %v", a, got)
			}
		}
	}
	for _, a := range wrongActors() {
		if MayActor(a) {
			t.Errorf("MayActor(%v)", a)
		}
	}
	if len(actors()) != 64 {
		t.Error("actors")
	}
}

// P3.1: a dot may be, if its actor may be, and its Seq is 1 to 2^20.
func TestMay(t *testing.T) {
	for _, a := range actors() {
		for _, seq := range []uint64{1, 2, 300, 1<<20 - 1, 1 << 20} {
			if d := (api.Dot{Actor: a, Seq: seq}); !May(d) {
				t.Errorf("May(%v) is false", d)
			}
		}
		for _, seq := range []uint64{0, 1<<20 + 1, 1 << 21, 1 << 32, 1<<32 + 1, math.MaxUint64} {
			if d := (api.Dot{Actor: a, Seq: seq}); May(d) {
				t.Errorf("May(%v)", d)
			}
		}
	}
	for _, d := range wrongDots() {
		if May(d) {
			t.Errorf("May(%v)", d)
		}
	}
}

// P3.1: by Rep, then by Inc, then by Seq, of any dots.
func TestCompare(t *testing.T) {
	var rising []api.Dot
	for _, rep := range []uint8{0, 1, 15, 16, 127, 128, 255} {
		for _, inc := range []uint32{0, 1, 4, 5, 1 << 31, math.MaxUint32} {
			for _, seq := range []uint64{0, 1, 1 << 20, 1<<20 + 1, 1 << 63, math.MaxUint64} {
				rising = append(rising, at(rep, inc, seq))
			}
		}
	}
	for i, a := range rising {
		for j, b := range rising {
			want := 0
			if i < j {
				want = -1
			} else if i > j {
				want = 1
			}
			if got := Compare(a, b); got != want {
				t.Errorf("Compare(%v, %v) = %d, want %d", a, b, got, want)
			}
		}
	}
}

// P3.1: actors stand in the order of their dots.
func TestCompareActors(t *testing.T) {
	as := actors()
	for i := range as[1:] {
		if Compare(api.Dot{Actor: as[i], Seq: math.MaxUint64}, api.Dot{Actor: as[i+1]}) != -1 {
			t.Errorf("%v is not ahead of %v", as[i], as[i+1])
		}
	}
	mixed := slices.Clone(as)
	rand.New(rand.NewSource(1)).Shuffle(len(mixed), func(i, j int) { mixed[i], mixed[j] = mixed[j], mixed[i] })
	slices.SortFunc(mixed, func(a, b api.Actor) int { return Compare(api.Dot{Actor: a}, api.Dot{Actor: b}) })
	if !slices.Equal(mixed, as) {
		t.Error(mixed)
	}
}
