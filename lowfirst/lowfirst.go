// Package lowfirst is numbers as bytes, the lowest first: so the layers' sectors and messages have them.
package lowfirst

// AppendLong is b, and the four bytes of n behind it.
func AppendLong(b []byte, n uint32) []byte {
	return AppendShort(AppendShort(b, uint16(n)), uint16(n>>16))
}

// AppendShort is b, and the two bytes of n behind it.
func AppendShort(b []byte, n uint16) []byte {
	return append(b, byte(n), byte(n>>8))
}

// Long is the number whose bytes b begins with; b has at least four.
func Long(b []byte) uint32 {
	return uint32(Short(b)) | uint32(Short(b[2:]))<<16
}

// Short is the number whose bytes b begins with; b has at least two.
func Short(b []byte) uint16 {
	return uint16(b[0]) | uint16(b[1])<<8
}
