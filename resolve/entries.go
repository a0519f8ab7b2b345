package resolve

import (
	"crossway/api"
	"crossway/prefix"
)

// Look returns the hop of the entry with the most bits whose prefix holds an address, of
// several the first one; false: there is none.
func Look(l []api.Entry, a api.Addr) (api.Hop, bool) {
	best := -1
	for i, x := range l {
		if prefix.Holds(x.Prefix, a) && (best < 0 || x.Prefix.Bits > l[best].Prefix.Bits) {
			best = i
		}
	}
	if best < 0 {
		return api.Hop{}, false
	}
	return l[best].Hop, true
}

// Changes returns what leads from some entries to others, both ordered by their prefixes.
func Changes(old, now []api.Entry) []api.Change {
	var l []api.Change
	for len(old) > 0 && len(now) > 0 {
		was, is := old[0], now[0]
		switch {
		case was.Prefix == is.Prefix:
			if was.Hop != is.Hop {
				l = append(l, api.Change{Entry: is})
			}
			old, now = old[1:], now[1:]
		case prefix.Less(is.Prefix, was.Prefix):
			l = append(l, api.Change{Entry: is})
			now = now[1:]
		default:
			l = append(l, api.Change{Gone: true, Entry: was})
			old = old[1:]
		}
	}
	for _, was := range old {
		l = append(l, api.Change{Gone: true, Entry: was})
	}
	for _, is := range now {
		l = append(l, api.Change{Entry: is})
	}
	return l
}

// Number returns the hops of some entries, each once, in the order in which they occur
// first; and for each entry the route of its prefix to the number of its hop, from 1 on.
func Number(l []api.Entry) ([]api.Route, []api.Hop) {
	var routes []api.Route
	var hops []api.Hop
	numbers := map[api.Hop]int{}
	for _, x := range l {
		if numbers[x.Hop] == 0 {
			hops = append(hops, x.Hop)
			numbers[x.Hop] = len(hops)
		}
		routes = append(routes, api.Route{Prefix: x.Prefix, Next: numbers[x.Hop]})
	}
	return routes, hops
}
