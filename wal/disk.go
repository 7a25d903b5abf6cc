package wal

import (
	"groat/api"
	"groat/crc"
	"groat/plant"
)

// A log's disk has two headers and then the segments. Each half of a sector is a tag and a text.
const (
	headers  = 2
	least    = headers + 4*api.SegSectors // sectors
	halfSize = api.SectorSize / 2
	tagSize  = 12
	halfText = halfSize - tagSize
	textSize = 2 * halfText // of a sector
)

// tag says what a half of a sector is, in numbers that no other write to the disk ever had: so halves of two writes are never taken for one sector, nor sectors of two groups for one group, whatever their texts and check sums.
type tag [tagSize]byte

// stamp is what is said by the tags of a group, or of a header.
type stamp struct {
	age  int // a header's own; a group's: that of the newest header at its time
	no   int // the group's number; a header's: that of the first group
	cost int // the group's; a header's: 0
	sum  int // the check sum of its text: each half has but one half of it
}

// header tells which group is the first one. Of the two the whole one with the greatest age counts.
type header struct {
	slot, age, first int
	whole            bool
}

// group is one that was found on the disk.
type group struct{ no, place, cost int }

// disk is one of a plant's.
type disk struct {
	p   *plant.Plant
	dev int
}

// segments is 0, if no log may be on the disk.
func (d disk) segments() int {
	n, e := d.p.Len(d.dev)
	if e != api.OK || n < least {
		return 0
	}
	return min((n-headers)/api.SegSectors, api.MaxSegments)
}

func begin(seg int) int { return headers + seg*api.SegSectors }

func segmentOf(place int) int { return (place - headers) / api.SegSectors }

func other(slot int) int { return 1 - slot }

// erase makes so many sectors noughts, for good.
func (d disk) erase(place, n int) api.Errno {
	var noughts [api.SectorSize]byte
	for i := place; i < place+n; i++ {
		b, e := d.p.Read(d.dev, i)
		if e == api.OK && [api.SectorSize]byte(b) != noughts {
			e = d.p.Write(d.dev, i, noughts[:])
		}
		if e != api.OK {
			return e
		}
	}
	return d.p.Flush(d.dev)
}

// lay writes a text of whole sectors, each half behind its tag, for good.
func (d disk) lay(place int, s stamp, t []byte) api.Errno {
	s.sum = sumOf(t)
	for i := range len(t) / textSize {
		b := make([]byte, 0, api.SectorSize)
		for h := 2 * i; h < 2*i+2; h++ {
			g := s.tag(h)
			b = append(b, g[:]...)
			b = append(b, t[h*halfText:(h+1)*halfText]...)
		}
		if e := d.p.Write(d.dev, place+i, b); e != api.OK {
			return e
		}
	}
	return d.p.Flush(d.dev)
}

func (d disk) layHeader(h header) api.Errno {
	return d.lay(h.slot, stamp{age: h.age, no: h.first}, make([]byte, textSize))
}

// header is what stands in a slot, with the greatest age that either half of it has.
func (d disk) header(slot int) (header, int, api.Errno) {
	b, e := d.p.Read(d.dev, slot)
	if e != api.OK {
		return header{}, 0, e
	}
	s := stampOf(b)
	t, ok := s.text(b)
	last, _ := cut(b, 1)
	whole := ok && s.cost == 0 && s.sum == sumOf(t)
	return header{slot: slot, age: s.age, first: s.no, whole: whole}, max(s.age, last.stamp().age), api.OK
}

// newestHeader is the one that counts; it is not whole, if none is. Its age is the greatest that any half of the two has, so that one more is an age that there never was.
func (d disk) newestHeader() (header, api.Errno) {
	var newest header
	greatest := 0
	for slot := range headers {
		h, age, e := d.header(slot)
		if e != api.OK {
			return header{}, e
		}
		greatest = max(greatest, age)
		if h.whole && (!newest.whole || h.age > newest.age) {
			newest = h
		}
	}
	newest.age = greatest
	return newest, api.OK
}

// groups are those of a segment from first on.
func (d disk) groups(seg, first int) ([]group, api.Errno) {
	var l []group
	next := none
	for place := begin(seg); place < begin(seg+1); {
		s, t, e := d.group(place)
		if e != api.OK {
			return nil, e
		}
		// What else stands there is left from when the segment was used ahead of this time.
		if s.cost == 0 || next != none && s.no != next {
			break
		}
		if s.no >= first {
			if _, ok := unpack(s, t); !ok {
				return nil, api.ErrCorrupt
			}
			l = append(l, group{no: s.no, place: place, cost: s.cost})
		}
		place, next = place+s.cost, s.no+1
	}
	return l, api.OK
}

// group is what the group that begins at a place is stamped with, and its text; a cost of 0: there is none, or not all of one.
func (d disk) group(place int) (stamp, []byte, api.Errno) {
	b, e := d.p.Read(d.dev, place)
	if e != api.OK {
		return stamp{}, nil, e
	}
	s := stampOf(b)
	if s.cost == 0 || place+s.cost > begin(segmentOf(place)+1) {
		return stamp{}, nil, api.OK
	}
	for i := 1; i < s.cost; i++ {
		more, e := d.p.Read(d.dev, place+i)
		if e != api.OK {
			return stamp{}, nil, e
		}
		b = append(b, more...)
	}
	t, ok := s.text(b)
	if !ok {
		return stamp{}, nil, api.OK
	}
	return s, t, api.OK
}

// text is what whole sectors have behind their tags; false, if one of these is not what is stamped.
func (s stamp) text(b []byte) ([]byte, bool) {
	t := make([]byte, 0, len(b)/api.SectorSize*textSize)
	for h := range len(b) / halfSize {
		g, piece := cut(b, h)
		if g != s.tag(h) {
			return nil, false
		}
		t = append(t, piece...)
	}
	return t, true
}

// cut tells the tag and the text of one of the halves.
func cut(b []byte, h int) (tag, []byte) {
	b = b[h*halfSize : (h+1)*halfSize : (h+1)*halfSize]
	return tag(b[:tagSize]), b[tagSize:]
}

// tag is that of one of the halves, from 0 on.
func (s stamp) tag(h int) tag {
	t := tag{byte(h), byte(s.cost)}
	put(t[2:6], s.age)
	put(t[6:10], s.no)
	put(t[10:], s.sum>>(16*(1-h%2)))
	return t
}

// stamp is what one tag says: of the check sum just its half.
func (t tag) stamp() stamp {
	return stamp{age: number(t[2:6]), no: number(t[6:10]), cost: int(t[1]), sum: number(t[10:])}
}

// stampOf is what the tags of a sector say, if they are those of one write.
func stampOf(b []byte) stamp {
	first, _ := cut(b, 0)
	last, _ := cut(b, 1)
	s := first.stamp()
	s.sum = s.sum<<16 | last.stamp().sum
	return s
}

func sumOf(t []byte) int { return int(crc.Sum(t)) }

// put writes a number into all of b, the highest byte first; number reads it.
func put(b []byte, n int) {
	for i := len(b) - 1; i >= 0; i-- {
		b[i] = byte(n)
		n >>= 8
	}
}

func number(b []byte) int {
	n := 0
	for _, x := range b {
		n = n<<8 | int(x)
	}
	return n
}
