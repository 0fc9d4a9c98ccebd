package measured

// node is one element on the outermost level; on each other level, it is 2 or 3 nodes of the level around it.
// It is never changed, because any number of levels and nodes may share it.
type node[E Element[M], M Monoid[M]] struct {
	measure M
	element E
	parts   []*node[E, M]
}

// leaf returns the node of an element.
func leaf[E Element[M], M Monoid[M]](x E) *node[E, M] {
	return &node[E, M]{measure: x.Measure(), element: x}
}

// over returns the node of 2 or 3 nodes.
func over[E Element[M], M Monoid[M]](parts []*node[E, M]) *node[E, M] {
	return &node[E, M]{measure: sum(parts), parts: parts}
}

// grouped returns at least 2 nodes, in groups of 2 or 3.
func grouped[E Element[M], M Monoid[M]](nodes []*node[E, M]) []*node[E, M] {
	var groups []*node[E, M]
	for len(nodes) > 0 {
		size := 3
		if len(nodes) == 2 || len(nodes) == 4 {
			// Of 4 nodes, a group of 3 would leave one alone.
			size = 2
		}
		groups = append(groups, over(nodes[:size]))
		nodes = nodes[size:]
	}
	return groups
}

// sum returns the measure of all nodes, of which there is at least one.
func sum[E Element[M], M Monoid[M]](nodes []*node[E, M]) M {
	m := nodes[0].measure
	for _, n := range nodes[1:] {
		m = m.Join(n.measure)
	}
	return m
}

// none returns the measure of no elements.
func none[M Monoid[M]]() M {
	var m M
	return m.None()
}

// each calls yield with every element of the nodes, in order, until it returns false. It returns whether it never did.
func each[E Element[M], M Monoid[M]](nodes []*node[E, M], yield func(E) bool) bool {
	for _, n := range nodes {
		if !n.each(yield) {
			return false
		}
	}
	return true
}

// each does the same for one node.
func (n *node[E, M]) each(yield func(E) bool) bool {
	if len(n.parts) > 0 {
		return each(n.parts, yield)
	}
	return yield(n.element)
}

// query tells of the measure of a beginning whether it is long enough.
type query[E Element[M], M Monoid[M]] func(M) bool

// place returns the index of the first node with which the query is true, or of the last node if it is not true before
// that. The measure of what is before all nodes is given.
func (q query[E, M]) place(nodes []*node[E, M], before M) int {
	last := len(nodes) - 1
	for i, n := range nodes[:last] {
		before = before.Join(n.measure)
		if q(before) {
			return i
		}
	}
	return last
}
