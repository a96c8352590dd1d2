package code

import (
	"bytes"

	"varve/api"
)

// Reader reads bytes, and remembers its first error.
type Reader struct {
	b    []byte
	err  api.Errno
	made bool
}

// NewReader tells a reader of the bytes.
func NewReader(b []byte) *Reader { return &Reader{b: bytes.Clone(b), made: true} }

// Num takes a number.
func (r *Reader) Num() uint64 { return read(r, r.num) }

// Int takes a whole number.
func (r *Reader) Int() int64 { return read(r, r.whole) }

// Text takes a text of at most so many bytes.
func (r *Reader) Text(most int) string { return read(r, r.text(most)) }

// Fail lets the error be e, if there is none yet.
func (r *Reader) Fail(e api.Errno) {
	if r.Err() == api.OK {
		r.err = e
	}
}

// Err tells the error.
func (r *Reader) Err() api.Errno {
	if r == nil || !r.made {
		return api.ErrNil
	}
	return r.err
}

// Left tells how many bytes there are yet.
func (r *Reader) Left() int {
	if r == nil {
		return 0
	}
	return len(r.b)
}

// read does a reader's step, that tells what the next bytes say, and how many these are: here alone errors are looked at, and bytes go.
func read[T any](r *Reader, step func() (T, int, api.Errno)) T {
	var none T
	if r.Err() != api.OK {
		return none
	}
	v, n, e := step()
	if e != api.OK {
		r.Fail(e)
		return none
	}
	r.b = r.b[n:]
	return v
}

// num is a number's step.
func (r *Reader) num() (uint64, int, api.Errno) { return number(r.b) }

// whole is a whole number's step.
func (r *Reader) whole() (int64, int, api.Errno) {
	n, size, e := number(r.b)
	return signed(n), size, e
}

// text tells the step of a text of at most so many bytes.
func (r *Reader) text(most int) func() (string, int, api.Errno) {
	return func() (string, int, api.Errno) {
		n, size, e := number(r.b)
		if e != api.OK {
			return "", 0, e
		}
		if n > uint64(max(most, 0)) {
			return "", 0, api.ErrLong
		}
		if n > uint64(len(r.b)-size) {
			return "", 0, api.ErrShort
		}
		end := size + int(n)
		return string(r.b[size:end]), end, api.OK
	}
}
