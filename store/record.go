package store

import "groat/api"

// A record is a change: whether the key is gone, how many bytes the key and the value have (the value's number in two bytes), the key, the value.
const headSize = 4

const (
	isSet = iota
	isGone
)

// refuse tells why changes can't be done, whatever the store has.
func refuse(l []api.Change) api.Errno {
	if len(l) > api.MaxRecords {
		return api.ErrLong
	}
	size := 0
	for _, c := range l {
		if !isChange(c) {
			return api.ErrKey
		}
		size += sizeOf(c)
	}
	if size > api.MaxPayload {
		return api.ErrLong
	}
	return api.OK
}

func isChange(c api.Change) bool {
	if c.Gone && len(c.Value) > 0 {
		return false
	}
	return len(c.Key) >= 1 && len(c.Key) <= api.MaxKey && len(c.Value) <= api.MaxValue
}

func sizeOf(c api.Change) int { return headSize + len(c.Key) + len(c.Value) }

func packAll(l []api.Change) [][]byte {
	records := make([][]byte, len(l))
	for i, c := range l {
		records[i] = pack(c)
	}
	return records
}

func pack(c api.Change) []byte {
	kind := byte(isSet)
	if c.Gone {
		kind = isGone
	}
	b := make([]byte, 0, sizeOf(c))
	b = append(b, kind, byte(len(c.Key)), byte(len(c.Value)>>8), byte(len(c.Value)))
	b = append(b, c.Key...)
	return append(b, c.Value...)
}

// unpackAll tells the changes of a group's records, or that they are none.
func unpackAll(records [][]byte) ([]api.Change, bool) {
	if len(records) > api.MaxRecords {
		return nil, false
	}
	l := make([]api.Change, len(records))
	for i, b := range records {
		c, is := unpack(b)
		if !is {
			return nil, false
		}
		l[i] = c
	}
	return l, true
}

func unpack(b []byte) (api.Change, bool) {
	if len(b) < headSize || b[0] > isGone {
		return api.Change{}, false
	}
	key, value := int(b[1]), int(b[2])<<8|int(b[3])
	rest := b[headSize:]
	if len(rest) != key+value {
		return api.Change{}, false
	}
	c := api.Change{Key: rest[:key:key], Value: rest[key:], Gone: b[0] == isGone}
	return c, isChange(c)
}

// A place is where a record stands: its group's number, and its row in that.
func placeOf(no, row int) int { return no*api.MaxRecords + row }

func groupOf(place int) int { return place / api.MaxRecords }

func rowOf(place int) int { return place % api.MaxRecords }
