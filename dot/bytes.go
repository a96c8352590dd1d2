package dot

import (
	"varve/api"
	"varve/code"
)

// Bytes tells a vector's bytes.
func Bytes(v api.Vector) []byte {
	c := Canon(v)
	return through(c, code.Num(nil, uint64(len(c))), func(b []byte, d api.Dot) []byte {
		return code.Num(code.Num(code.Num(b, uint64(d.Rep)), uint64(d.Inc)), d.Seq)
	})
}

// Read tells the vector whose bytes these are.
func Read(b []byte) (api.Vector, api.Errno) {
	r := code.NewReader(b)
	var v api.Vector
	// Actors rise or there is an error: however many dots are said to come, the loop ends behind the last actor.
	for left := r.Num(); left > 0 && r.Err() == api.OK; left-- {
		v = take(r, v)
	}
	if r.Left() > 0 {
		r.Fail(api.ErrForm)
	}
	if e := r.Err(); e != api.OK {
		return nil, e
	}
	return v, api.OK
}

// take tells the vector, and the next dot off the reader behind it; ErrForm to the reader, if that can't stand there.
func take(r *code.Reader, v api.Vector) api.Vector {
	d := made(r.Num(), r.Num(), r.Num())
	if !May(d) || len(v) > 0 && compareActors(v[len(v)-1].Actor, d.Actor) >= 0 {
		// Where the reader has an error already, it keeps that.
		r.Fail(api.ErrForm)
		return v
	}
	return append(v, d)
}

// made tells the dot of these numbers; the zero dot, which may not be, where a number is above what the dot's could hold.
func made(rep, inc, seq uint64) api.Dot {
	if rep >= api.MaxReps || inc > api.MaxInc {
		return api.Dot{}
	}
	return api.Dot{Actor: api.Actor{Rep: uint8(rep), Inc: uint32(inc)}, Seq: seq}
}
