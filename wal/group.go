package wal

import (
	"groat/api"
	"groat/crc"
)

// A group's text: a sector's for how many records it has and the check sum, then the records' lengths, then the records.
const (
	sumAt      = 1
	sumSize    = 4
	lengthSize = 2
)

func isLong(l [][]byte) bool {
	return len(l) > api.MaxRecords || sizeOf(l) > api.MaxPayload
}

func sizeOf(l [][]byte) int {
	n := 0
	for _, r := range l {
		n += len(r)
	}
	return n
}

// costOf is how many sectors a group takes.
func costOf(l [][]byte) int {
	return 1 + (lengthSize*len(l)+sizeOf(l)+textSize-1)/textSize
}

// pack is a group's text; unpack tells the records, or that it is none.
func pack(l [][]byte) []byte {
	t := make([]byte, costOf(l)*textSize)
	t[0] = byte(len(l))
	lengths := t[textSize:]
	records := lengths[lengthSize*len(l):]
	for i, r := range l {
		put(lengths[i*lengthSize:(i+1)*lengthSize], len(r))
		records = records[copy(records, r):]
	}
	put(t[sumAt:sumAt+sumSize], sumOf(t))
	return t
}

func unpack(t []byte) ([][]byte, bool) {
	if len(t) < textSize || number(t[sumAt:sumAt+sumSize]) != sumOf(t) {
		return nil, false
	}
	count, lengths := int(t[0]), t[textSize:]
	if len(lengths) < lengthSize*count {
		return nil, false
	}
	records := lengths[lengthSize*count:]
	l := make([][]byte, count)
	for i := range l {
		n := number(lengths[i*lengthSize : (i+1)*lengthSize])
		if n > len(records) {
			return nil, false
		}
		l[i] = records[:n:n] // no room behind it: the next record stands there
		records = records[n:]
	}
	return l, true
}

// sumOf is the check sum of what a group's text has but for the sum itself.
func sumOf(t []byte) int {
	return int(crc.More(crc.Sum(t[:sumAt]), t[textSize:]))
}
