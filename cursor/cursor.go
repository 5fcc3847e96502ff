// Package cursor is layer 1: bytes read from the front, and numbers laid into bytes.
package cursor

import "sennit/api"

// Cursor is a text that is read from its front.
type Cursor struct {
	Data string
	At   int
	Bad  api.Errno
}

// Open begins to read a text.
func Open(s string) Cursor { return Cursor{Data: s} }

// Number reads a number of so many bytes, the highest first.
func Number(c Cursor, bytes int) (Cursor, int) {
	c, s := cut(c, bytes, bytes >= 1 && bytes <= 7)
	n := 0
	for i := range len(s) {
		n = n<<8 | int(s[i])
	}
	return c, n
}

// Take reads bytes.
func Take(c Cursor, n int) (Cursor, string) { return cut(c, n, n >= 0) }

// Rest reads all that is left.
func Rest(c Cursor) (Cursor, string) {
	// Left is 0 where nothing may be read, and cut tells why.
	return cut(c, Left(c), true)
}

// Left tells how many bytes are left.
func Left(c Cursor) int {
	if c.Bad != api.OK || !within(c) {
		return 0
	}
	return len(c.Data) - c.At
}

// Done tells whether all was read.
func Done(c Cursor) api.Errno {
	switch {
	case c.Bad != api.OK:
		return c.Bad
	case !within(c):
		return api.ErrRange
	case Left(c) > 0:
		return api.ErrForm
	}
	return api.OK
}

// Lay lays a number behind bytes; they are copied, that the answer shares nothing with them.
func Lay(b []byte, n, bytes int) []byte {
	out := append([]byte{}, b...)
	if !Fits(n, bytes) {
		return out
	}
	for i := range bytes {
		out = append(out, byte(n>>(8*(bytes-1-i))))
	}
	return out
}

// Fits tells whether a number has so many bytes.
func Fits(n, bytes int) bool {
	return bytes >= 1 && bytes <= 7 && n >= 0 && n>>(8*bytes) == 0
}

// within tells whether the place is one of the text, or its end.
func within(c Cursor) bool { return c.At >= 0 && c.At <= len(c.Data) }

// cut reads n bytes, if so many may be asked for (fine); with an error the place stays.
func cut(c Cursor, n int, fine bool) (Cursor, string) {
	switch {
	case c.Bad != api.OK:
		return c, ""
	case !within(c):
		c.Bad = api.ErrRange
	case !fine:
		c.Bad = api.ErrArg
	case n > len(c.Data)-c.At:
		c.Bad = api.ErrCut
	default:
		s := c.Data[c.At : c.At+n]
		c.At += n
		return c, s
	}
	return c, ""
}
