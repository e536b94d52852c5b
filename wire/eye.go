package wire

import (
	"bartizan/api"
)

// Eye reads.
type Eye struct {
	left []byte // what was not read
	err  api.Errno
}

// Look is an eye at the front of bytes.
func Look(b []byte) *Eye {
	left := make([]byte, len(b))
	copy(left, b)
	return &Eye{left: left}
}

// Fail remembers the first error.
func (y *Eye) Fail(e api.Errno) {
	if y != nil && y.err == api.OK {
		y.err = e
	}
}

// Err is the first error.
func (y *Eye) Err() api.Errno {
	if y == nil {
		return api.ErrArg
	}
	return y.err
}

// Num reads a number, of 63 bits at most, in its one form.
func (y *Eye) Num() int {
	if y.Err() != api.OK {
		return 0
	}
	n, long, e := number(y.left)
	if e != api.OK {
		y.Fail(e)
		return 0
	}
	y.left = y.left[long:]
	return n
}

// number is the number at the front of bytes, and how many of them it has.
func number(b []byte) (n, long int, e api.Errno) {
	for i := range longest {
		if i == len(b) {
			return 0, 0, api.ErrShort
		}
		n += int(b[i]%more) << (bits * i)
		if b[i] >= more {
			continue
		}
		if b[i] == 0 && i > 0 {
			return 0, 0, api.ErrForm
		}
		return n, i + 1, api.OK
	}
	return 0, 0, api.ErrRange
}

// Upto reads a number that is at most another one.
func (y *Eye) Upto(most int) int {
	n := y.Num()
	if n > most {
		y.Fail(api.ErrRange)
	}
	if y.Err() != api.OK {
		return 0
	}
	return n
}

// Raw reads so many bytes.
func (y *Eye) Raw(n int) []byte {
	if y.Err() != api.OK {
		return nil
	}
	if n < 0 || n > len(y.left) {
		y.Fail(api.ErrShort)
		return nil
	}
	b := make([]byte, n)
	copy(b, y.left)
	y.left = y.left[n:]
	return b
}

// Text reads a text of so many bytes at most.
func (y *Eye) Text(most int) []byte {
	return y.Raw(y.Upto(most))
}

// Sum reads a sum.
func (y *Eye) Sum() api.Sum {
	var s api.Sum
	copy(s[:], y.Raw(len(s)))
	return s
}

// Done is the first error; ErrLong, if something is left.
func (y *Eye) Done() api.Errno {
	if y != nil && len(y.left) > 0 {
		y.Fail(api.ErrLong)
	}
	return y.Err()
}
