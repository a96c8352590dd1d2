package dot

import (
	"slices"

	"varve/api"
)

// numbers is what a vector stands for: an actor that is not in it has the number 0.
type numbers map[api.Actor]uint64

// Canon tells a vector's canonical form.
func Canon(v api.Vector) api.Vector { return stands(v).vector() }

// Get tells an actor's number.
func Get(v api.Vector, a api.Actor) uint64 {
	return through(v, 0, func(n uint64, d api.Dot) uint64 {
		if d.Actor != a {
			return n
		}
		return max(n, d.Seq)
	})
}

// Has tells whether a dot is within a vector.
func Has(v api.Vector, d api.Dot) bool { return May(d) && d.Seq <= Get(v, d.Actor) }

// Within tells whether the vector a is within b.
func Within(a, b api.Vector) bool {
	n := stands(b)
	// If no dot is above b's number, the greatest one of its actor is not.
	return through(a, true, func(all bool, d api.Dot) bool { return all && d.Seq <= n[d.Actor] })
}

// Join tells the vector of the greater numbers of both.
func Join(a, b api.Vector) api.Vector {
	return both(a, b, func(x, y uint64) uint64 { return max(x, y) })
}

// Meet tells the vector of the lesser numbers of both.
func Meet(a, b api.Vector) api.Vector {
	return both(a, b, func(x, y uint64) uint64 { return min(x, y) })
}

// Next tells an actor's dot behind the vector's.
func Next(v api.Vector, a api.Actor) (api.Dot, api.Errno) {
	if !MayActor(a) {
		return api.Dot{}, api.ErrArg
	}
	n := Get(v, a)
	if n == api.MaxSeq {
		return api.Dot{}, api.ErrOver
	}
	return api.Dot{Actor: a, Seq: n + 1}, api.OK
}

// through tells what the step makes of the first value, dot by dot that may be: the others stand for nothing.
func through[T any](v api.Vector, first T, step func(T, api.Dot) T) T {
	for _, d := range v {
		if May(d) {
			first = step(first, d)
		}
	}
	return first
}

// stands tells what a vector stands for.
func stands(v api.Vector) numbers {
	return through(v, numbers{}, func(n numbers, d api.Dot) numbers {
		n[d.Actor] = max(n[d.Actor], d.Seq)
		return n
	})
}

// vector tells the canonical vector that stands for the numbers.
func (n numbers) vector() api.Vector {
	var v api.Vector
	for a, seq := range n {
		if seq > 0 {
			v = append(v, api.Dot{Actor: a, Seq: seq})
		}
	}
	// They come off the map in any order.
	slices.SortFunc(v, Compare)
	return v
}

// both tells the vector of what is picked of both numbers of each actor.
func both(a, b api.Vector, pick func(x, y uint64) uint64) api.Vector {
	x, y, n := stands(a), stands(b), numbers{}
	for _, one := range [2]numbers{x, y} {
		for actor := range one {
			n[actor] = pick(x[actor], y[actor])
		}
	}
	return n.vector()
}
