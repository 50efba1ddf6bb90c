package tree

import "ambry/api"

// span is the keys not below from, and, unless it is open, below to.
type span struct {
	from, to string
	open     bool
}

// has tells whether a key is in a span.
func (s span) has(key string) bool {
	return key >= s.from && (s.open || key < s.to)
}

// empty tells whether no key is in a span: its first one would be from.
func (s span) empty() bool {
	return !s.has(s.from)
}

// kid tells those keys of a span that are to be found in a node's kid.
func (s span) kid(n api.Node, i int) span {
	if i > 0 {
		s.from = max(s.from, n.Keys[i-1])
	}
	if i < len(n.Keys) && (s.open || n.Keys[i] < s.to) {
		s.to, s.open = n.Keys[i], false
	}
	return s
}
