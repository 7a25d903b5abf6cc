package index

import (
	"cmp"
	"slices"
	"strings"
)

// A pair is a key with its number.
type pair struct {
	key    string
	number int
}

// A node has pairs by rising keys and, unless it is a lowest one, one kid more than pairs: the keys of kids[i] are below that of pairs[i], those of the kid behind it above.
type node struct {
	pairs []pair
	kids  []*node
}

func (n *node) lowest() bool { return len(n.kids) == 0 }

// only is what stands in the place of an uppermost node without pairs: the one kid that it has left, or nothing.
func (n *node) only() *node {
	if n.lowest() {
		return nil
	}
	return n.kids[0]
}

// find is the place of the first pair whose key is not below key, and whether it is that key.
func (n *node) find(key string) (int, bool) {
	return slices.BinarySearchFunc(n.pairs, key, func(p pair, key string) int {
		return cmp.Compare(p.key, key)
	})
}

// put leaves n with a pair more than order, if it was full: who called splits it then.
func (n *node) put(key string, number, order int) (int, bool) {
	i, is := n.find(key)
	if is {
		old := n.pairs[i].number
		n.pairs[i].number = number
		return old, true
	}
	if n.lowest() {
		// A copy: the key may be a piece of a long text, which would be kept with it.
		n.pairs = slices.Insert(n.pairs, i, pair{strings.Clone(key), number})
		return 0, false
	}
	old, was := n.kids[i].put(key, number, order)
	if len(n.kids[i].pairs) > order {
		middle, right := n.kids[i].split()
		n.pairs = slices.Insert(n.pairs, i, middle)
		n.kids = slices.Insert(n.kids, i+1, right)
	}
	return old, was
}

// split leaves the lower half in n. Of order + 1 pairs the halves beside the middle one have order together, so neither has fewer than order / 2.
func (n *node) split() (pair, *node) {
	half := len(n.pairs) / 2
	middle := n.pairs[half]
	right := &node{pairs: slices.Clone(n.pairs[half+1:])}
	n.pairs = slices.Delete(n.pairs, half, len(n.pairs))
	if !n.lowest() {
		right.kids = slices.Clone(n.kids[half+1:])
		n.kids = slices.Delete(n.kids, half+1, len(n.kids))
	}
	return middle, right
}

// drop may leave n with a pair less than least: who called mends it then.
func (n *node) drop(key string, least int) (int, bool) {
	i, is := n.find(key)
	if n.lowest() {
		if !is {
			return 0, false
		}
		return n.takePair(i).number, true
	}
	if !is {
		old, was := n.kids[i].drop(key, least)
		n.mend(i, least)
		return old, was
	}
	// A pair between two kids can't go without another one in its place: the last one below it.
	old := n.pairs[i].number
	n.pairs[i] = n.kids[i].dropLast(least)
	n.mend(i, least)
	return old, true
}

// dropLast takes away the pair with the highest key, as drop does.
func (n *node) dropLast(least int) pair {
	if n.lowest() {
		return n.takePair(len(n.pairs) - 1)
	}
	i := len(n.kids) - 1
	last := n.kids[i].dropLast(least)
	n.mend(i, least)
	return last
}

// mend gives the kid i, if it has one pair too few, one of a neighbour that has more than it needs; if none has, the kid and a neighbour become one, and with the pair between them they have 2 * least, which is not more than a node may have.
func (n *node) mend(i, least int) {
	switch {
	case len(n.kids[i].pairs) >= least:
	case i > 0 && len(n.kids[i-1].pairs) > least:
		n.lendFromLeft(i)
	case i+1 < len(n.kids) && len(n.kids[i+1].pairs) > least:
		n.lendFromRight(i)
	case i > 0:
		n.join(i - 1)
	default:
		n.join(i)
	}
}

// lendFromLeft moves a pair through n from the kid before the kid i, and what stood behind that pair.
func (n *node) lendFromLeft(i int) {
	left, kid := n.kids[i-1], n.kids[i]
	kid.pairs = slices.Insert(kid.pairs, 0, n.pairs[i-1])
	n.pairs[i-1] = left.takePair(len(left.pairs) - 1)
	if !left.lowest() {
		kid.kids = slices.Insert(kid.kids, 0, left.takeKid(len(left.kids)-1))
	}
}

// lendFromRight moves a pair through n from the kid behind the kid i, and what stood ahead of that pair.
func (n *node) lendFromRight(i int) {
	kid, right := n.kids[i], n.kids[i+1]
	kid.pairs = append(kid.pairs, n.pairs[i])
	n.pairs[i] = right.takePair(0)
	if !right.lowest() {
		kid.kids = append(kid.kids, right.takeKid(0))
	}
}

// join makes one of the kid i, the pair behind it, and the kid behind that.
func (n *node) join(i int) {
	right := n.takeKid(i + 1)
	left := n.kids[i]
	left.pairs = append(left.pairs, n.takePair(i))
	left.pairs = append(left.pairs, right.pairs...)
	left.kids = append(left.kids, right.kids...)
}

func (n *node) takePair(i int) pair {
	p := n.pairs[i]
	n.pairs = slices.Delete(n.pairs, i, i+1)
	return p
}

func (n *node) takeKid(i int) *node {
	kid := n.kids[i]
	n.kids = slices.Delete(n.kids, i, i+1)
	return kid
}

// walk tells the pairs that are not below from, and below to, and whether to go on behind them: not, when one was not below to, or tell said so.
func (n *node) walk(from, to string, tell func(pair) bool) bool {
	for i, _ := n.find(from); ; i++ {
		if !n.lowest() && !n.kids[i].walk(from, to, tell) {
			return false
		}
		if i == len(n.pairs) {
			return true
		}
		if to != "" && n.pairs[i].key >= to || !tell(n.pairs[i]) {
			return false
		}
	}
}
