package iface

import (
	"slices"

	"crossway/addr"
	"crossway/api"
	"crossway/prefix"
)

// Port returns the port with a number; false: there is none.
func (s *Set) Port(port int) (api.Port, bool) {
	m := s.member(port)
	if m == nil {
		return api.Port{}, false
	}
	return m.port, true
}

// Locals returns the locals of a port, in the order in which they were added.
func (s *Set) Locals(port int) []api.Local { return slices.Clone(s.locals(port)) }

// locals returns the locals of a port, in the set's own memory.
func (s *Set) locals(port int) []api.Local {
	m := s.member(port)
	if m == nil {
		return nil
	}
	return m.locals
}

// Named returns the number of the port with a name; 0: there is none.
func (s *Set) Named(name string) int { return s.numbers[name] }

// Mine returns the number of the port that has an address, up or down; 0: none has it.
func (s *Set) Mine(a api.Addr) int {
	return 1 + slices.IndexFunc(s.members, func(m member) bool { return m.find(a) >= 0 })
}

// Near returns the number of the port that is up and has the longest prefix that holds an
// address, of several the least number; false: there is none.
func (s *Set) Near(a api.Addr) (int, bool) {
	port, bits := 0, 0
	for i, m := range s.members {
		if l, ok := nearest(m.locals, a); ok && m.port.Up && l.Bits > bits {
			port, bits = i+1, l.Bits
		}
	}
	return port, port > 0
}

// Source returns the address from which packets of a port to another address are sent;
// false: the port has none of that family.
func (s *Set) Source(port int, to api.Addr) (api.Addr, bool) {
	if !addr.Valid(to) {
		return api.Addr{}, false
	}
	locals := s.locals(port)
	if l, ok := nearest(locals, to); ok {
		return l.Addr, true
	}
	for _, l := range locals {
		if l.Addr.Six == to.Six {
			return l.Addr, true
		}
	}
	return api.Addr{}, false
}

// nearest returns the local whose prefix holds an address, of several the one with the
// most bits, of several the first one; false: there is none.
func nearest(locals []api.Local, a api.Addr) (api.Local, bool) {
	// Each local has at least one bit, so that the first one that holds it has more.
	var best api.Local
	for _, l := range locals {
		if l.Bits > best.Bits && holds(l, a) {
			best = l
		}
	}
	return best, best.Bits > 0
}

// holds reports whether the prefix of a local holds an address.
func holds(l api.Local, a api.Addr) bool {
	p, e := prefix.Of(l.Addr, l.Bits)
	return e == api.OK && prefix.Holds(p, a)
}
