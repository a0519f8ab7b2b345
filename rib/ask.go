package rib

import (
	"cmp"
	"maps"
	"slices"

	"crossway/api"
	"crossway/prefix"
)

// Paths returns the paths to a prefix, better ones first.
func (r *Rib) Paths(p api.Prefix) []api.Path { return slices.Clone(r.paths[p]) }

// Best returns the best path to a prefix; false: there is none.
func (r *Rib) Best(p api.Prefix) (api.Path, bool) {
	l := r.paths[p]
	if len(l) == 0 {
		return api.Path{}, false
	}
	return l[0], true
}

// Prefixes returns the prefixes that have a path, in their order.
func (r *Rib) Prefixes() []api.Prefix {
	return slices.SortedFunc(maps.Keys(r.paths), comparePrefixes)
}

// comparePrefixes compares valid prefixes as cmp.Compare does, by their order.
func comparePrefixes(p, q api.Prefix) int {
	switch {
	case prefix.Less(p, q):
		return -1
	case prefix.Less(q, p):
		return 1
	}
	return 0
}

// Over returns the prefixes that have a path and hold an address, the one with the most
// bits first.
func (r *Rib) Over(a api.Addr) []api.Prefix {
	var l []api.Prefix
	for p := range r.paths {
		if prefix.Holds(p, a) {
			l = append(l, p)
		}
	}
	// No two prefixes of as many bits hold the same address, so that this tells all apart.
	slices.SortFunc(l, func(p, q api.Prefix) int { return cmp.Compare(q.Bits, p.Bits) })
	return l
}

// Count returns the number of paths.
func (r *Rib) Count() int {
	n := 0
	for _, l := range r.paths {
		n += len(l)
	}
	return n
}
