package client

// numbers: a set of packet numbers.
type numbers struct {
	set map[int]struct{} // nil, if it is empty: a map keeps the room of its fullest time
}

func (n *numbers) has(id int) bool {
	_, has := n.set[id]
	return has
}

func (n *numbers) count() int { return len(n.set) }

func (n *numbers) put(id int) {
	if n.set == nil {
		n.set = map[int]struct{}{}
	}
	n.set[id] = struct{}{}
}

func (n *numbers) drop(id int) {
	delete(n.set, id)
	if len(n.set) == 0 {
		n.set = nil
	}
}
