package measured

import (
	"slices"
)

// most is how many nodes a level has on either side at most.
const most = 4

// level is a level of a tree, with those inside it. In order, the nodes on the left come first, then those of the inner
// levels, then those on the right. It has from 1 to most nodes on either side; or it is a single node on the left, and
// nothing else. Nil is no level at all.
// It is never changed, because any number of trees may share it.
type level[E Element[M], M Monoid[M]] struct {
	measure     M
	left, right []*node[E, M]
	inner       *level[E, M]
}

// single returns the level of a single node.
func single[E Element[M], M Monoid[M]](x *node[E, M]) *level[E, M] {
	return &level[E, M]{measure: x.measure, left: []*node[E, M]{x}}
}

// deep returns the level of the nodes on both sides, from 1 to most each, and of the inner levels.
func deep[E Element[M], M Monoid[M]](left []*node[E, M], inner *level[E, M], right []*node[E, M]) *level[E, M] {
	measure := sum(left).Join(inner.total()).Join(sum(right))
	return &level[E, M]{measure: measure, left: left, inner: inner, right: right}
}

// few returns the level of at most 2*most nodes.
func few[E Element[M], M Monoid[M]](nodes []*node[E, M]) *level[E, M] {
	switch len(nodes) {
	case 0:
		return nil
	case 1:
		return single(nodes[0])
	}
	half := len(nodes) / 2
	return deep(nodes[:half], nil, nodes[half:])
}

// filled returns the level of the nodes on both sides and of the inner levels. If there are no nodes on a side, it takes
// them from the inner levels.
func filled[E Element[M], M Monoid[M]](left []*node[E, M], inner *level[E, M], right []*node[E, M]) *level[E, M] {
	switch {
	case len(left) > 0 && len(right) > 0:
		return deep(left, inner, right)
	case inner == nil:
		return few(slices.Concat(left, right))
	case len(left) == 0:
		first, others := inner.popLeft()
		return filled(first.parts, others, right)
	}
	last, others := inner.popRight()
	return deep(left, others, last.parts)
}

// join returns the level of the nodes of a, those between, and those of b.
func join[E Element[M], M Monoid[M]](a *level[E, M], between []*node[E, M], b *level[E, M]) *level[E, M] {
	switch {
	case a == nil:
		return b.pushAllLeft(between)
	case b == nil:
		return a.pushAllRight(between)
	case a.isSingle():
		return b.pushAllLeft(between).pushLeft(a.left[0])
	case b.isSingle():
		return a.pushAllRight(between).pushRight(b.left[0])
	}
	// There are from 2 to 3*most nodes to be grouped, so at most most groups of them are between the inner levels again.
	groups := grouped(slices.Concat(a.right, between, b.left))
	return deep(a.left, join(a.inner, groups, b.inner), b.right)
}

// total returns the measure of all nodes.
func (l *level[E, M]) total() M {
	if l == nil {
		return none[M]()
	}
	return l.measure
}

// isSingle tells whether the level is a single node.
func (l *level[E, M]) isSingle() bool {
	return len(l.right) == 0
}

// pushLeft returns the level with x added at the front.
func (l *level[E, M]) pushLeft(x *node[E, M]) *level[E, M] {
	if l == nil {
		return single(x)
	}
	made := &level[E, M]{measure: x.measure.Join(l.measure), inner: l.inner, right: l.right}
	switch {
	case l.isSingle():
		made.left, made.right = []*node[E, M]{x}, l.left
	case len(l.left) < most:
		made.left = slices.Concat([]*node[E, M]{x}, l.left)
	default:
		// Two nodes stay, so that neither the next push nor the next pop needs the inner levels.
		made.left = []*node[E, M]{x, l.left[0]}
		made.inner = l.inner.pushLeft(over(l.left[1:]))
	}
	return made
}

// pushRight returns the level with x added at the end.
func (l *level[E, M]) pushRight(x *node[E, M]) *level[E, M] {
	if l == nil {
		return single(x)
	}
	made := &level[E, M]{measure: l.measure.Join(x.measure), left: l.left, inner: l.inner}
	if len(l.right) < most {
		made.right = slices.Concat(l.right, []*node[E, M]{x})
	} else {
		made.inner = l.inner.pushRight(over(l.right[:most-1]))
		made.right = []*node[E, M]{l.right[most-1], x}
	}
	return made
}

// pushAllLeft returns the level with all nodes added at the front.
func (l *level[E, M]) pushAllLeft(nodes []*node[E, M]) *level[E, M] {
	for i := len(nodes) - 1; i >= 0; i-- {
		l = l.pushLeft(nodes[i])
	}
	return l
}

// pushAllRight returns the level with all nodes added at the end.
func (l *level[E, M]) pushAllRight(nodes []*node[E, M]) *level[E, M] {
	for _, x := range nodes {
		l = l.pushRight(x)
	}
	return l
}

// popLeft returns the first node and the level of the others.
func (l *level[E, M]) popLeft() (*node[E, M], *level[E, M]) {
	return l.left[0], filled(l.left[1:], l.inner, l.right)
}

// popRight returns the last node and the level of the others.
func (l *level[E, M]) popRight() (*node[E, M], *level[E, M]) {
	if l.isSingle() {
		return l.left[0], nil
	}
	last := len(l.right) - 1
	return l.right[last], filled(l.left, l.inner, l.right[:last])
}

// split returns the node at which q becomes true, the level of those before it, and that of those behind it. The measure
// of what is before the whole level is given.
func (l *level[E, M]) split(q query[E, M], before M) (*level[E, M], *node[E, M], *level[E, M]) {
	if l.isSingle() {
		return nil, l.left[0], nil
	}
	inside := before.Join(sum(l.left))
	if q(inside) {
		i := q.place(l.left, before)
		return few(l.left[:i]), l.left[i], filled(l.left[i+1:], l.inner, l.right)
	}
	behind := inside.Join(l.inner.total())
	if l.inner != nil && q(behind) {
		left, group, right := l.inner.split(q, inside)
		i := q.place(group.parts, inside.Join(left.total()))
		return filled(l.left, left, group.parts[:i]), group.parts[i], filled(group.parts[i+1:], right, l.right)
	}
	i := q.place(l.right, behind)
	return filled(l.left, l.inner, l.right[:i]), l.right[i], few(l.right[i+1:])
}

// each calls yield with every element, in order, until it returns false. It returns whether it never did.
func (l *level[E, M]) each(yield func(E) bool) bool {
	return l == nil || each(l.left, yield) && l.inner.each(yield) && each(l.right, yield)
}
