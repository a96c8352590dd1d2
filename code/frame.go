package code

import (
	"bytes"

	"varve/api"
	"varve/crc"
)

// sumSize is how many bytes a frame's sum takes.
const sumSize = 4

// Frame tells the frame of a body; nil, if that is too long.
func Frame(b []byte) []byte {
	if len(b) > api.MaxFrame {
		return nil
	}
	return crc.Append(append(Num(nil, uint64(len(b))), b...))
}

// Unframe tells the body of the frame that the bytes begin with, and how many bytes that frame has.
func Unframe(b []byte) ([]byte, int, api.Errno) {
	n, size, e := number(b)
	if e != api.OK {
		return nil, 0, e
	}
	if n > api.MaxFrame {
		return nil, 0, api.ErrLong
	}
	end := size + int(n)
	whole := end + sumSize
	if len(b) < whole {
		return nil, 0, api.ErrShort
	}
	if !crc.Ends(b[:whole]) {
		return nil, 0, api.ErrSum
	}
	return bytes.Clone(b[size:end]), whole, api.OK
}
