// Package crc is layer 1: check sums: see shared/doc/01-crc.md.
package crc

// steps tells what four steps by the polynomial 82f63b78 make of four bits. Four and not eight, as tables are to be short.
var steps = [16]uint32{
	0x00000000, 0x105ec76f, 0x20bd8ede, 0x30e349b1,
	0x417b1dbc, 0x5125dad3, 0x61c69362, 0x7198540d,
	0x82f63b78, 0x92a8fc17, 0xa24bb5a6, 0xb21572c9,
	0xc38d26c4, 0xd3d3e1ab, 0xe330a81a, 0xf36e6f75,
}

// Sum is the CRC-32 of bytes; More that of bytes behind others whose sum is known.
func Sum(b []byte) uint32 { return More(0, b) }

func More(sum uint32, b []byte) uint32 {
	r := ^sum
	for _, x := range b {
		r ^= uint32(x)
		r = r>>4 ^ steps[r&15]
		r = r>>4 ^ steps[r&15]
	}
	return ^r
}
