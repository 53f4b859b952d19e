// Package wire is layer 1: see shared/doc/01-wire.md.
package wire

import "bytes"

const (
	maxSize    = 8         // bytes of the widest number
	lengthSize = 2         // bytes in which a frame tells how long a part is
	maxPart    = 1<<16 - 1 // the greatest number that these tell
)

// Put tells n in size bytes, the highest first; what doesn't fit is lost.
func Put(n uint64, size int) []byte {
	if size < 1 || size > maxSize {
		return nil
	}
	out := make([]byte, size)
	for i := range out {
		out[i] = byte(n >> (8 * (size - 1 - i)))
	}
	return out
}

// Get tells the number that stands in b, if b has 1 to 8 bytes.
func Get(b []byte) (uint64, bool) {
	if len(b) < 1 || len(b) > maxSize {
		return 0, false
	}
	var n uint64
	for _, c := range b {
		n = n<<8 | uint64(c)
	}
	return n, true
}

// Frame tells the frame of the parts, if none is too long for one.
func Frame(parts ...[]byte) ([]byte, bool) {
	size, ok := frameSize(parts)
	if !ok {
		return nil, false
	}
	out := make([]byte, 0, size)
	for _, p := range parts {
		out = append(out, Put(uint64(len(p)), lengthSize)...)
		out = append(out, p...)
	}
	return out, true
}

// frameSize looks at all parts ahead of any copying: a part that is too long may come last.
func frameSize(parts [][]byte) (int, bool) {
	size := 0
	for _, p := range parts {
		if len(p) > maxPart {
			return 0, false
		}
		size += lengthSize + len(p)
	}
	return size, true
}

// Parts tells the parts whose frame b is.
func Parts(b []byte) ([][]byte, bool) {
	var parts [][]byte
	for len(b) > 0 {
		part, rest, ok := cutPart(b)
		if !ok {
			return nil, false
		}
		// A clone, as whoever asked may write over it, and neither b nor another part may change by that.
		parts = append(parts, bytes.Clone(part))
		b = rest
	}
	return parts, true
}

// cutPart cuts the first part off a frame; it fails where the frame is cut short.
func cutPart(b []byte) (part, rest []byte, ok bool) {
	if len(b) < lengthSize {
		return nil, nil, false
	}
	n, _ := Get(b[:lengthSize])
	size, rest := int(n), b[lengthSize:]
	if size > len(rest) {
		return nil, nil, false
	}
	return rest[:size], rest[size:], true
}

// Xor tells a xor b, byte by byte, as far as both reach.
func Xor(a, b []byte) []byte {
	out := make([]byte, min(len(a), len(b)))
	for i := range out {
		out[i] = a[i] ^ b[i]
	}
	return out
}
