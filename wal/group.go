package wal

import "groat/api"

// A group's text: how many records it has, the records' lengths, the records.
const (
	countSize  = 1
	lengthSize = 2
)

func isLong(l [][]byte) bool {
	return len(l) > api.MaxRecords || sizeOf(l) > api.MaxPayload
}

func sizeOf(l [][]byte) int {
	n := 0
	for _, r := range l {
		n += len(r)
	}
	return n
}

// costOf is how many sectors a group takes.
func costOf(l [][]byte) int {
	return (countSize + lengthSize*len(l) + sizeOf(l) + textSize - 1) / textSize
}

// pack is a group's text; unpack tells the records, or that it is none.
func pack(l [][]byte) []byte {
	t := make([]byte, costOf(l)*textSize)
	t[0] = byte(len(l))
	lengths := t[countSize:]
	records := lengths[lengthSize*len(l):]
	for i, r := range l {
		put(lengths[i*lengthSize:(i+1)*lengthSize], len(r))
		records = records[copy(records, r):]
	}
	return t
}

func unpack(s stamp, t []byte) ([][]byte, bool) {
	if len(t) < textSize || s.sum != sumOf(t) {
		return nil, false
	}
	count, lengths := int(t[0]), t[countSize:]
	if len(lengths) < lengthSize*count {
		return nil, false
	}
	records := lengths[lengthSize*count:]
	l := make([][]byte, count)
	for i := range l {
		n := number(lengths[i*lengthSize : (i+1)*lengthSize])
		if n > len(records) {
			return nil, false
		}
		l[i] = records[:n:n] // no room behind it: the next record stands there
		records = records[n:]
	}
	return l, true
}
