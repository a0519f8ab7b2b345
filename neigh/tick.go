package neigh

import (
	"cmp"
	"maps"
	"slices"

	"crossway/addr"
	"crossway/api"
)

// keys returns what there are entries for, in the order of a Tick.
func (c *Cache) keys() []key { return slices.SortedFunc(maps.Keys(c.entries), compareKeys) }

// compareKeys compares as cmp.Compare does: by the ports, then by the order of addresses.
func compareKeys(a, b key) int {
	switch {
	case a.port != b.port:
		return cmp.Compare(a.port, b.port)
	case addr.Less(a.addr, b.addr):
		return -1
	case addr.Less(b.addr, a.addr):
		return 1
	}
	return 0
}

// Known returns all entries, in the order of a Tick.
func (c *Cache) Known() []api.Neigh {
	var l []api.Neigh
	for _, k := range c.keys() {
		e := c.entries[k]
		l = append(l, api.Neigh{Port: k.port, Addr: k.addr, State: e.state, Mac: e.mac})
	}
	return l
}

// Tick lets one tick pass for each entry, in order.
func (c *Cache) Tick() []api.Act {
	var acts []api.Act
	for _, k := range c.keys() {
		acts = append(acts, c.pass(k)...)
	}
	return acts
}

// pass lets one tick pass for the entry for k.
func (c *Cache) pass(k key) []api.Act {
	e := c.entries[k]
	switch e.state {
	case api.NeighAsked, api.NeighProbe:
		return c.ask(k, e)
	case api.NeighReach:
		e.left--
		if e.left == 0 {
			e = stale(e.mac)
		}
	case api.NeighDelay:
		e.left--
		if e.left == 0 {
			return c.ask(k, entry{state: api.NeighProbe, mac: e.mac})
		}
	}
	c.entries[k] = e
	return nil
}

// ask makes e the entry for k, with one more request; it is removed if there were as many
// as there may be.
func (c *Cache) ask(k key, e entry) []api.Act {
	if e.asked == api.MaxAsks {
		return c.remove(k, api.ActFail)
	}
	e.asked++
	c.entries[k] = e
	return []api.Act{k.act(api.ActAsk, e.mac, "")}
}

// remove removes the entry for k, and returns an action of that kind for each packet that
// waited for it.
func (c *Cache) remove(k key, kind int) []api.Act {
	var acts []api.Act
	for _, packet := range c.entries[k].waiting {
		acts = append(acts, k.act(kind, 0, packet))
	}
	delete(c.entries, k)
	return acts
}

// Drop removes all entries of a port.
func (c *Cache) Drop(port int) []api.Act {
	var acts []api.Act
	for _, k := range c.keys() {
		if k.port == port {
			acts = append(acts, c.remove(k, api.ActLost)...)
		}
	}
	return acts
}
