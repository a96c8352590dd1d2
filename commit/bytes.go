package commit

import (
	"math"
	"slices"

	"varve/api"
	"varve/code"
	"varve/op"
)

// maxActors is how many dots a canonical vector has at most: one of each life of each replica.
const maxActors = api.MaxReps * api.MaxInc

// Put tells b and the commit's bytes behind it.
func Put(b []byte, c api.Commit) []byte {
	// There is no room behind the clipped b, so what is laid there moves all of it to memory of its own.
	b = putDot(slices.Clip(b), c.Dot)
	b = putDots(putDots(b, c.Parents), c.VV)
	return op.Put(code.Num(b, c.Time), c.Op)
}

// Take takes a commit off the reader; ErrForm to the reader, if it may not be.
func Take(r *code.Reader) api.Commit {
	own, dots := takeDot(r), lists(r)
	c := api.Commit{Dot: own, Parents: dots(api.MaxParents), VV: dots(maxActors), Time: r.Num(), Op: op.Take(r)}
	if !May(c) {
		// Where the reader has an error already, it keeps that.
		r.Fail(api.ErrForm)
	}
	if r.Err() != api.OK {
		return api.Commit{}
	}
	return c
}

// Bytes tells a commit's bytes.
func Bytes(c api.Commit) ([]byte, api.Errno) {
	if !May(c) {
		return nil, api.ErrArg
	}
	return Put(nil, c), api.OK
}

// Read tells the commit whose bytes these are.
func Read(b []byte) (api.Commit, api.Errno) {
	r := code.NewReader(b)
	c := Take(r)
	if r.Left() > 0 {
		r.Fail(api.ErrForm)
	}
	if e := r.Err(); e != api.OK {
		return api.Commit{}, e
	}
	return c, api.OK
}

// putDot tells b and a dot's numbers behind it.
func putDot(b []byte, d api.Dot) []byte {
	return code.Num(code.Num(code.Num(b, uint64(d.Rep)), uint64(d.Inc)), d.Seq)
}

// putDots tells b, and how many dots there are and each one's numbers behind it.
func putDots(b []byte, l []api.Dot) []byte {
	b = code.Num(b, uint64(len(l)))
	for _, d := range l {
		b = putDot(b, d)
	}
	return b
}

// takeDot takes a dot off the reader; the zero dot, which may not be, where a number is above what the dot's could hold.
func takeDot(r *code.Reader) api.Dot {
	rep, inc, seq := r.Num(), r.Num(), r.Num()
	if rep > math.MaxUint8 || inc > math.MaxUint32 {
		return api.Dot{}
	}
	return api.Dot{Actor: api.Actor{Rep: uint8(rep), Inc: uint32(inc)}, Seq: seq}
}

// lists tells what takes a list of at most so many dots off the reader; ErrForm to the reader at once, if there are more.
func lists(r *code.Reader) func(most uint64) []api.Dot {
	return func(most uint64) []api.Dot {
		n := r.Num()
		if n > most {
			r.Fail(api.ErrForm)
			return nil
		}
		var l []api.Dot
		for range n {
			l = append(l, takeDot(r))
		}
		return l
	}
}
