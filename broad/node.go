package broad

import "gyre/geom"

// node is a leaf, which has a body's box, or a joint, below which two nodes hang.
// The two below a joint differ in height by at most 1: so 60 leaves are at most 8 high, in whatever order they came.
type node struct {
	id    int      // of a leaf alone
	box   geom.Box // of a leaf alone: as it was put
	room  geom.Box // of a leaf its box, made fat; of a joint the least box around both rooms below it
	high  int      // 0 of a leaf
	above *node    // nil of the root
	below [2]*node
}

// meeting adds the bodies below a node whose boxes meet a box to a list, in no order that means anything.
func (n *node) meeting(b geom.Box, ids []int) []int {
	// A box that meets one inside a room meets the room, even if it is inside out: nothing is missed.
	if n == nil || !geom.Meet(n.room, b) {
		return ids
	}
	if n.high > 0 {
		return n.below[1].meeting(b, n.below[0].meeting(b, ids))
	}
	// The room is greater than the box: it is the box that counts.
	if geom.Meet(n.box, b) {
		ids = append(ids, n.id)
	}
	return ids
}

// join hangs two nodes below a joint.
func (n *node) join(a, b *node) {
	n.below = [2]*node{a, b}
	a.above, b.above = n, n
	n.measure()
}

// measure takes a joint's room and height anew from what is below it.
func (n *node) measure() {
	a, b := n.below[0], n.below[1]
	n.room = geom.Both(a.room, b.room)
	n.high = 1 + max(a.high, b.high)
}

// hang puts a leaf into the tree.
func (t *Tree) hang(leaf *node) {
	if t.root == nil {
		t.root = leaf
		return
	}
	mate := t.mate(leaf)
	joint := &node{}
	t.replace(mate, joint)
	joint.join(mate, leaf)
	t.mend(joint.above)
}

// unhang takes a leaf out of the tree, and the joint that it hung below.
func (t *Tree) unhang(leaf *node) {
	joint := leaf.above
	if joint == nil {
		t.root = nil
		return
	}
	other := joint.below[0]
	if other == leaf {
		other = joint.below[1]
	}
	t.replace(joint, other)
	t.mend(other.above)
}

// replace puts a node into the place of another one.
func (t *Tree) replace(old, by *node) {
	by.above = old.above
	switch {
	case old.above == nil:
		t.root = by
	case old.above.below[0] == old:
		old.above.below[0] = by
	default:
		old.above.below[1] = by
	}
}

// mend puts right what a change below a joint has left wrong in it and in all above it.
func (t *Tree) mend(n *node) {
	for n != nil {
		n.measure()
		n = t.level(n).above
	}
}

// level makes the two below a joint, of which one may be higher by 2, differ by at most 1: the answer hangs in the joint's place then.
func (t *Tree) level(n *node) *node {
	tall, short := n.below[0], n.below[1]
	if tall.high < short.high {
		tall, short = short, tall
	}
	if tall.high <= short.high+1 {
		return n
	}
	keep, give := tall.below[0], tall.below[1]
	if keep.high < give.high {
		keep, give = give, keep
	}
	t.replace(n, tall)
	n.join(short, give)
	tall.join(n, keep)
	return tall
}

// mate finds the leaf beside which a new one is to hang.
// It goes down to a leaf always: a new one beside a high joint would differ from it by too much.
func (t *Tree) mate(leaf *node) *node {
	n := t.root
	for n.high > 0 {
		a, b := n.below[0], n.below[1]
		n = a
		if x, y := growth(a.room, leaf.room), growth(b.room, leaf.room); y < x || x == y && b.high < a.high {
			n = b
		}
	}
	return n
}

// growth is how much greater a box becomes when another one is taken into it.
func growth(a, b geom.Box) int { return girth(geom.Both(a, b)) - girth(a) }

// girth is the sum of a box's sides: boxes as great as the world have an area that no int holds.
func girth(b geom.Box) int {
	return b.High.X - b.Low.X + b.High.Y - b.Low.Y + b.High.Z - b.Low.Z
}
