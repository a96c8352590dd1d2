package dot

import (
	"math"
	"math/rand"
	"slices"
	"testing"

	"varve/api"
)

// plain is the document's words for what a vector stands for: a number of each actor, in the order of actors.
type plain [64]uint64

// plainOf looks for each actor through all dots.
func plainOf(v api.Vector) plain {
	var p plain
	for i, a := range actors() {
		for _, d := range v {
			if d.Actor == a && d.Seq >= 1 && d.Seq <= 1<<20 && d.Seq > p[i] {
				p[i] = d.Seq
			}
		}
	}
	return p
}

// canon tells the vector that has a dot of each actor whose number is above 0.
func (p plain) canon() api.Vector {
	var v api.Vector
	for i, a := range actors() {
		if p[i] > 0 {
			v = append(v, api.Dot{Actor: a, Seq: p[i]})
		}
	}
	return v
}

// pick tells what f makes of both numbers of each actor.
func (p plain) pick(q plain, f func(x, y uint64) uint64) plain {
	for i := range p {
		p[i] = f(p[i], q[i])
	}
	return p
}

// within tells whether each number is at most the other's.
func (p plain) within(q plain) bool {
	for i := range p {
		if p[i] > q[i] {
			return false
		}
	}
	return true
}

func greater(x, y uint64) uint64 {
	if x > y {
		return x
	}
	return y
}

func lesser(x, y uint64) uint64 {
	if x < y {
		return x
	}
	return y
}

// anyDot tells a dot, most often one that may be, of few actors and numbers, so that they meet.
func anyDot(r *rand.Rand) api.Dot {
	if r.Intn(6) == 0 {
		wrong := wrongDots()
		return wrong[r.Intn(len(wrong))]
	}
	d := at(uint8(r.Intn(3)), uint32(1+r.Intn(2)), uint64(1+r.Intn(4)))
	switch r.Intn(12) {
	case 0:
		d.Rep = uint8(r.Intn(16))
	case 1:
		d.Inc = uint32(1 + r.Intn(4))
	case 2:
		d.Seq = uint64(1 + r.Intn(1<<20))
	case 3:
		d.Seq = 1 << 20
	}
	return d
}

// anyVector tells a vector of some dots, in any order, some of them twice.
func anyVector(r *rand.Rand) api.Vector {
	var v api.Vector
	for range r.Intn(9) {
		v = append(v, anyDot(r))
	}
	return v
}

// vectors tells vectors of all shapes that the document speaks of.
func vectors() []api.Vector {
	var all, last, back api.Vector
	for _, a := range actors() {
		all = append(all, api.Dot{Actor: a, Seq: 1})
		last = append(last, api.Dot{Actor: a, Seq: 1 << 20})
		back = append(api.Vector{{Actor: a, Seq: uint64(len(all))}}, back...)
	}
	vs := []api.Vector{
		nil,
		{},
		{at(0, 1, 1)},
		{at(0, 1, 3)},
		{at(0, 1, 2), at(1, 1, 5)},
		{at(1, 1, 5), at(0, 1, 2)},
		{at(0, 1, 2), at(0, 1, 2)},
		{at(0, 1, 2), at(0, 1, 3), at(0, 1, 1)},
		{at(0, 2, 1), at(0, 1, 1)},
		{at(15, 4, 1<<20)},
		{at(15, 4, 1<<20), at(15, 4, 1<<20+1)},
		{at(0, 1, math.MaxUint64), at(0, 1, 7)},
		{at(0, 1, 0), at(1, 1, 0)},
		wrongDots(),
		append(wrongDots(), at(2, 3, 4)),
		all, last, back,
	}
	r := rand.New(rand.NewSource(3))
	for range 60 {
		vs = append(vs, anyVector(r))
	}
	return vs
}

// sameVector tells whether two lists of dots are the same, none and nil being one.
func sameVector(a, b api.Vector) bool { return slices.Equal(a, b) }

// P3.1, P3.2: the document's examples.
func TestExamples(t *testing.T) {
	a, b := api.Vector{at(0, 1, 3)}, api.Vector{at(0, 1, 2), at(1, 1, 5)}
	if v := Join(a, b); !sameVector(v, api.Vector{at(0, 1, 3), at(1, 1, 5)}) {
		t.Error("Join", v)
	}
	if v := Meet(a, b); !sameVector(v, api.Vector{at(0, 1, 2)}) {
		t.Error("Meet", v)
	}
}

// P3.1: the canonical form has a dot of each actor whose number is above 0, with that, rising.
func TestCanon(t *testing.T) {
	for _, x := range []struct{ v, want api.Vector }{
		{nil, nil},
		{api.Vector{}, nil},
		{api.Vector{at(0, 1, 3)}, api.Vector{at(0, 1, 3)}},
		{api.Vector{at(1, 1, 5), at(0, 2, 1), at(0, 1, 2)}, api.Vector{at(0, 1, 2), at(0, 2, 1), at(1, 1, 5)}},
		{api.Vector{at(0, 1, 2), at(0, 1, 3), at(0, 1, 1)}, api.Vector{at(0, 1, 3)}},
		{api.Vector{at(0, 1, 3), at(0, 1, 3)}, api.Vector{at(0, 1, 3)}},
		{api.Vector{at(0, 1, 1<<20+1), at(0, 1, 7), at(0, 1, 0)}, api.Vector{at(0, 1, 7)}},
		{api.Vector{at(0, 1, 1<<20), at(0, 1, math.MaxUint64)}, api.Vector{at(0, 1, 1<<20)}},
		{api.Vector{at(16, 1, 1), at(2, 5, 1), at(2, 0, 1), at(2, 1, 0)}, nil},
		{wrongDots(), nil},
	} {
		if got := Canon(x.v); !sameVector(got, x.want) {
			t.Errorf("Canon(%v) = %v, want %v", x.v, got, x.want)
		}
	}
	for _, v := range vectors() {
		got, want := Canon(v), plainOf(v).canon()
		if !sameVector(got, want) {
			t.Errorf("Canon(%v) = %v, want %v", v, got, want)
		}
		if !sameVector(Canon(got), got) {
			t.Errorf("Canon of %v is not itself", got)
		}
	}
}

// P3.1: an actor's number is that of the greatest of its dots that may be; 0, if there is none.
func TestGet(t *testing.T) {
	for _, v := range vectors() {
		p := plainOf(v)
		for i, a := range actors() {
			if got := Get(v, a); got != p[i] {
				t.Errorf("Get(%v, %v) = %d, want %d", v, a, got, p[i])
			}
		}
		for _, a := range wrongActors() {
			if got := Get(v, a); got != 0 {
				t.Errorf("Get(%v, %v) = %d", v, a, got)
			}
		}
	}
}

// P3.1: a dot is within a vector, if it may be, and its Seq is at most its actor's number.
func TestHas(t *testing.T) {
	for _, v := range vectors() {
		p := plainOf(v)
		for i, a := range actors() {
			for _, seq := range []uint64{0, 1, p[i] - 1, p[i], p[i] + 1, 1 << 20, 1<<20 + 1, math.MaxUint64} {
				d := api.Dot{Actor: a, Seq: seq}
				if got, want := Has(v, d), seq >= 1 && seq <= p[i]; got != want {
					t.Errorf("Has(%v, %v) is %v", v, d, got)
				}
			}
		}
		for _, d := range wrongDots() {
			if Has(v, d) {
				t.Errorf("Has(%v, %v)", v, d)
			}
		}
	}
}

// P3.1: a vector is within another one, if each of its numbers is at most the other one's.
func TestWithin(t *testing.T) {
	one, two := api.Vector{at(0, 1, 2)}, api.Vector{at(1, 1, 5), at(0, 1, 2), at(0, 1, 1)}
	for _, x := range []struct {
		a, b api.Vector
		want bool
	}{
		{nil, nil, true},
		{nil, one, true},
		{api.Vector{}, nil, true},
		{wrongDots(), nil, true},
		{one, nil, false},
		{one, wrongDots(), false},
		{one, one, true},
		{one, two, true},
		{two, one, false},
		{api.Vector{at(0, 1, 3)}, two, false},
		{api.Vector{at(0, 1, 3), at(1, 1, 5)}, two, false},
		{api.Vector{at(0, 1, 1), at(0, 1, 3), at(0, 1, 1)}, two, false},
		{api.Vector{at(0, 2, 1)}, two, false},
		{api.Vector{at(0, 1, 1<<20+1)}, one, true},
		{api.Vector{at(0, 1, 1)}, api.Vector{at(0, 1, math.MaxUint64)}, false},
	} {
		if got := Within(x.a, x.b); got != x.want {
			t.Errorf("Within(%v, %v) is %v", x.a, x.b, got)
		}
	}
	for _, a := range vectors() {
		for _, b := range vectors() {
			if got, want := Within(a, b), plainOf(a).within(plainOf(b)); got != want {
				t.Errorf("Within(%v, %v) is %v", a, b, got)
			}
		}
	}
}

// P3.2: the greater ones, the lesser ones of both numbers of each actor, canonical.
func TestJoinMeet(t *testing.T) {
	for _, a := range vectors() {
		for _, b := range vectors() {
			p, q := plainOf(a), plainOf(b)
			if got, want := Join(a, b), p.pick(q, greater).canon(); !sameVector(got, want) {
				t.Errorf("Join(%v, %v) = %v, want %v", a, b, got, want)
			}
			if got, want := Meet(a, b), p.pick(q, lesser).canon(); !sameVector(got, want) {
				t.Errorf("Meet(%v, %v) = %v, want %v", a, b, got, want)
			}
		}
	}
}

// What follows: Join is the least vector that both are within, Meet the greatest one that is within both.
func TestLeastAndGreatest(t *testing.T) {
	r := rand.New(rand.NewSource(7))
	for range 2000 {
		a, b, c := anyVector(r), anyVector(r), anyVector(r)
		j, m := Join(a, b), Meet(a, b)
		if !Within(a, j) || !Within(b, j) || !Within(m, a) || !Within(m, b) {
			t.Fatalf("of %v and %v: Join %v, Meet %v", a, b, j, m)
		}
		if (Within(a, c) && Within(b, c)) != Within(j, c) {
			t.Fatalf("Join(%v, %v) is not the least: %v", a, b, c)
		}
		if (Within(c, a) && Within(c, b)) != Within(c, m) {
			t.Fatalf("Meet(%v, %v) is not the greatest: %v", a, b, c)
		}
	}
}

// P3.2: ErrArg, if the actor may not be; ErrOver, if its number is MaxSeq; else its dot behind the vector's.
func TestNext(t *testing.T) {
	for _, v := range vectors() {
		p := plainOf(v)
		for i, a := range actors() {
			want, e := api.Dot{Actor: a, Seq: p[i] + 1}, api.OK
			if p[i] == 1<<20 {
				want, e = api.Dot{}, api.ErrOver
			}
			if d, f := Next(v, a); d != want || f != e {
				t.Errorf("Next(%v, %v) = %v, %d, want %v, %d", v, a, d, f, want, e)
			}
		}
		for _, a := range wrongActors() {
			if d, e := Next(v, a); d != (api.Dot{}) || e != api.ErrArg {
				t.Errorf("Next(%v, %v) = %v, %d", v, a, d, e)
			}
		}
	}
	a := api.Actor{Rep: 2, Inc: 3}
	if d, e := Next(api.Vector{at(2, 3, 1<<20-1)}, a); d != at(2, 3, 1<<20) || e != api.OK {
		t.Error("the last one:", d, e)
	}
	if d, e := Next(api.Vector{at(2, 3, 5), at(2, 3, 1<<20+1)}, a); d != at(2, 3, 6) || e != api.OK {
		t.Error("a dot that may not be counts:", d, e)
	}
	full := api.Vector{at(16, 1, 1<<20), at(2, 5, 1<<20)}
	for _, a := range []api.Actor{full[0].Actor, full[1].Actor} {
		if d, e := Next(full, a); d != (api.Dot{}) || e != api.ErrArg {
			t.Error("ErrArg goes ahead of ErrOver:", d, e)
		}
	}
}

// Rules: what is handed in is not changed, whatever room is behind it, and what is told is in memory of its own.
func TestOwnMemory(t *testing.T) {
	room := func(v api.Vector) api.Vector {
		long := append(make(api.Vector, 0, len(v)+8), v...)
		clear(long[len(v):cap(long)])
		return long
	}
	a, b := room(api.Vector{at(1, 1, 5), at(0, 1, 2), at(9, 9, 9)}), room(api.Vector{at(2, 1, 1), at(0, 1, 3)})
	for name, call := range map[string]func() api.Vector{
		"Canon":          func() api.Vector { return Canon(a) },
		"Canon again":    func() api.Vector { return Canon(Canon(a)) },
		"Join":           func() api.Vector { return Join(a, b) },
		"Join of one":    func() api.Vector { return Join(a, nil) },
		"Join of itself": func() api.Vector { return Join(a, a) },
		"Meet":           func() api.Vector { return Meet(a, b) },
		"Meet of itself": func() api.Vector { return Meet(a, a) },
	} {
		wasA, wasB := slices.Clone(a[:cap(a)]), slices.Clone(b[:cap(b)])
		got, again := call(), call()
		want := slices.Clone(got)
		clear(again[:cap(again)])
		if !sameVector(got, want) {
			t.Error(name, "tells the same memory twice")
		}
		clear(got[:cap(got)])
		Get(a, at(0, 1, 1).Actor)
		Has(a, at(0, 1, 1))
		Within(a, b)
		Next(a, at(0, 1, 1).Actor)
		Bytes(a)
		if !sameVector(a[:cap(a)], wasA) || !sameVector(b[:cap(b)], wasB) {
			t.Error(name, "changes what is handed in, or what is behind it, or shares memory with it")
		}
	}
	c := Canon(a)
	same := Canon(c)
	clear(c)
	if !sameVector(same, api.Vector{at(0, 1, 2), at(1, 1, 5)}) {
		t.Error("Canon of a canonical vector keeps it")
	}
}

// Rules: two vectors that stand for the same numbers are one, whoever asks.
func TestSameNumbers(t *testing.T) {
	r := rand.New(rand.NewSource(5))
	for range 500 {
		v, o := anyVector(r), anyVector(r)
		w := append(slices.Clone(v), wrongDots()...)
		for _, d := range v {
			if May(d) {
				w = append(w, api.Dot{Actor: d.Actor, Seq: d.Seq - 1})
			}
		}
		r.Shuffle(len(w), func(i, j int) { w[i], w[j] = w[j], w[i] })
		if !sameVector(Canon(v), Canon(w)) || string(Bytes(v)) != string(Bytes(w)) {
			t.Fatalf("%v and %v are not one", v, w)
		}
		if Within(v, o) != Within(w, o) || Within(o, v) != Within(o, w) || !sameVector(Join(v, o), Join(w, o)) || !sameVector(Meet(o, v), Meet(o, w)) {
			t.Fatalf("%v and %v are not one for %v", v, w, o)
		}
		for _, a := range actors() {
			d, e := Next(v, a)
			f, g := Next(w, a)
			if d != f || e != g || Get(v, a) != Get(w, a) {
				t.Fatalf("%v and %v are not one for %v", v, w, a)
			}
		}
	}
}

// P1: a long vector's calls end soon, too.
func TestLong(t *testing.T) {
	var v, w api.Vector
	for i := range 1 << 19 {
		v = append(v, at(uint8(i%16), uint32(i/16%4+1), uint64(i+1)))
		w = append(w, at(uint8(i), uint32(i), uint64(i)))
	}
	if c := Canon(v); len(c) != 64 || c[63] != at(15, 4, 1<<19) || c[0] != at(0, 1, 1<<19-63) {
		t.Error(c)
	}
	if !Within(v, v) || !Within(Canon(v), v) || !Within(v, Canon(v)) || !sameVector(Join(v, w), Join(w, v)) || !sameVector(Meet(v, w), Meet(w, v)) {
		t.Error("long vectors")
	}
}
