package op

import (
	"math"
	"slices"

	"varve/api"
	"varve/code"
)

// Put tells b and the operation's bytes behind it.
func Put(b []byte, o api.Op) []byte {
	// There is no room behind the clipped b, so what is laid there moves all of it to memory of its own.
	b = code.Num(slices.Clip(b), uint64(o.Kind))
	b = code.Num(b, uint64(len(o.Path)))
	for _, name := range o.Path {
		b = code.Text(b, name)
	}
	b = code.Text(code.Int(b, o.N), o.Text)
	b = code.Num(b, uint64(len(o.Dots)))
	for _, d := range o.Dots {
		b = putDot(b, d)
	}
	return b
}

// Take takes an operation off the reader; ErrForm to the reader, if it may not be.
func Take(r *code.Reader) api.Op {
	o := api.Op{
		Kind: uint8(atMost(r, math.MaxUint8)),
		Path: list(r, api.MaxPath, takeName),
		N:    r.Int(),
		Text: r.Text(api.MaxText),
		Dots: list(r, api.MaxDrops, takeDot),
	}
	if !May(o) {
		r.Fail(api.ErrForm)
	}
	if r.Err() != api.OK {
		return api.Op{}
	}
	return o
}

// Bytes tells an event's bytes.
func Bytes(e api.Event) ([]byte, api.Errno) {
	if !MayEvent(e) {
		return nil, api.ErrArg
	}
	return Put(code.Num(putDot(nil, e.Dot), e.Time), e.Op), api.OK
}

// Read tells the event whose bytes these are.
func Read(b []byte) (api.Event, api.Errno) {
	r := code.NewReader(b)
	e := api.Event{Dot: takeDot(r), Time: r.Num(), Op: Take(r)}
	if !MayEvent(e) || r.Left() > 0 {
		// Where the reader has an error already, it keeps that.
		r.Fail(api.ErrForm)
	}
	if f := r.Err(); f != api.OK {
		return api.Event{}, f
	}
	return e, api.OK
}

// putDot tells b and a dot's numbers behind it.
func putDot(b []byte, d api.Dot) []byte {
	return code.Num(code.Num(code.Num(b, uint64(d.Rep)), uint64(d.Inc)), d.Seq)
}

// takeDot takes a dot off the reader; the zero dot, which may not be, where a number is above what the dot's could hold.
func takeDot(r *code.Reader) api.Dot {
	rep, inc, seq := r.Num(), r.Num(), r.Num()
	if rep > math.MaxUint8 || inc > math.MaxUint32 {
		return api.Dot{}
	}
	return api.Dot{Actor: api.Actor{Rep: uint8(rep), Inc: uint32(inc)}, Seq: seq}
}

// takeName takes a name of a path off the reader.
func takeName(r *code.Reader) string { return r.Text(api.MaxName) }

// atMost takes a number off the reader; 0, and ErrForm to the reader, if it is above most.
func atMost(r *code.Reader, most uint64) uint64 {
	n := r.Num()
	if n > most {
		r.Fail(api.ErrForm)
		return 0
	}
	return n
}

// list takes how many there are off the reader, and each of them.
func list[T any](r *code.Reader, most uint64, one func(*code.Reader) T) []T {
	var l []T
	for range atMost(r, most) {
		l = append(l, one(r))
	}
	return l
}
