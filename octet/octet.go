// Package octet is layer 1: numbers as bytes in network byte order, and a
// reader of such bytes. See shared/doc/01-octet.md.
package octet

// maxWidth is how many bytes a uint64 has: no number is wider.
const maxWidth = 8

// Put returns the bytes of b, followed by the number n in so many bytes as
// width says, the most significant one first.
func Put(b []byte, width int, n uint64) []byte {
	width = min(max(width, 0), maxWidth)
	// Appending to b would write into its owner's spare capacity.
	out := make([]byte, len(b)+width)
	copy(out, b)
	for i := range width {
		out[len(out)-1-i] = byte(n)
		n >>= 8
	}
	return out
}

// Get returns the number of a width that is encoded at a position; false:
// there is none.
func Get(b []byte, at, width int) (uint64, bool) {
	if width < 0 || width > maxWidth || at < 0 {
		return 0, false
	}
	// at+width could be more than an int holds; what is left cannot.
	if width > len(b)-at {
		return 0, false
	}
	var n uint64
	for i := range width {
		n = n<<8 | uint64(b[at+i])
	}
	return n, true
}

// Reader goes through bytes, and records whether they ended too early.
type Reader struct {
	rest  []byte
	short bool
}

// New returns a reader of the bytes of b as they are now.
func New(b []byte) *Reader {
	// The owner of b may change it later.
	own := make([]byte, len(b))
	copy(own, b)
	return &Reader{rest: own}
}

// Num returns the next number of a width, and moves past it.
func (r *Reader) Num(width int) uint64 {
	n, ok := Get(r.rest, 0, width)
	if !ok {
		r.cut()
		return 0
	}
	r.rest = r.rest[width:]
	return n
}

// Bytes returns the next n bytes, and moves past them.
func (r *Reader) Bytes(n int) []byte {
	if n < 0 || n > len(r.rest) {
		r.cut()
		return nil
	}
	// A piece of rest would let its owner write into what is still unread.
	out := make([]byte, n)
	copy(out, r.rest)
	r.rest = r.rest[n:]
	return out
}

// Left returns the number of bytes that are left.
func (r *Reader) Left() int { return len(r.rest) }

// Short reports whether the bytes ended too early.
func (r *Reader) Short() bool { return r.short }

// cut makes the reader short. With nothing left, no later call can move it, and
// each answers what a short reader's does.
func (r *Reader) cut() {
	r.rest = nil
	r.short = true
}
