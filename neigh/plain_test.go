package neigh_test

import (
	"bytes"
	"slices"

	"crossway/addr"
	"crossway/api"
)

// cacher is what a cache can do, and a plain one too.
type cacher interface {
	Send(port int, a api.Addr, packet string) ([]api.Act, api.Errno)
	Learn(port int, a api.Addr, mac api.Mac) ([]api.Act, api.Errno)
	Tell(port int, a api.Addr, mac api.Mac, answer, over bool) ([]api.Act, api.Errno)
	Tick() []api.Act
	Drop(port int) []api.Act
	State(port int, a api.Addr) (int, api.Mac)
	Known() []api.Neigh
}

// record is an entry of a plain cache: what last happened to it, and when.
type record struct {
	port    int
	addr    api.Addr
	kind    int // the state that it had then
	mac     api.Mac
	since   int
	waiting []string
}

// plain is a cache in another way: one list of entries, with the time since which each has
// its state, and no counts: what a tick does is worked out from how long ago that was.
type plain struct {
	now int
	all []record
}

// state is the state of an entry now.
func (p *plain) state(r record) int {
	age := p.now - r.since
	switch {
	case r.kind == 2 && age >= 30:
		return 3
	case r.kind == 4 && age >= 5:
		return 5
	}
	return r.kind
}

func isWrong(port int, a api.Addr) bool {
	class := addr.Class(a)
	return port <= 0 || port > 8 || class != 2 && class != 5
}

func isWrongMac(m api.Mac) bool { return m == 0 || m >= 1<<48 }

// find is the entry of a port and an address; nil: there is none.
func (p *plain) find(port int, a api.Addr) *record {
	for i := range p.all {
		if p.all[i].port == port && p.all[i].addr == a {
			return &p.all[i]
		}
	}
	return nil
}

func (p *plain) Send(port int, a api.Addr, packet string) ([]api.Act, api.Errno) {
	if isWrong(port, a) {
		return nil, api.ErrArg
	}
	r := p.find(port, a)
	if r == nil && len(p.all) == 64 {
		return []api.Act{lost(port, a, packet)}, api.OK
	}
	if r == nil {
		p.all = append(p.all, record{port, a, 1, 0, p.now, []string{packet}})
		return []api.Act{asked(port, a, 0)}, api.OK
	}
	switch p.state(*r) {
	case 1:
		r.waiting = append(r.waiting, packet)
		if len(r.waiting) < 4 {
			return nil, api.OK
		}
		first := r.waiting[0]
		r.waiting = slices.Clone(r.waiting[1:])
		return []api.Act{lost(port, a, first)}, api.OK
	case 3:
		r.kind, r.since = 4, p.now
	}
	return []api.Act{sent(port, a, r.mac, packet)}, api.OK
}

// answered gives an entry that is Asked its mac; by what is sent then, Stale is Delay at once.
func (p *plain) answered(r *record, kind int, mac api.Mac) ([]api.Act, api.Errno) {
	var l []api.Act
	for _, packet := range r.waiting {
		l = append(l, sent(r.port, r.addr, mac, packet))
	}
	*r = record{r.port, r.addr, kind, mac, p.now, nil}
	return l, api.OK
}

func (p *plain) Learn(port int, a api.Addr, mac api.Mac) ([]api.Act, api.Errno) {
	if isWrong(port, a) || isWrongMac(mac) {
		return nil, api.ErrArg
	}
	r := p.find(port, a)
	switch {
	case r == nil && len(p.all) < 64:
		p.all = append(p.all, record{port, a, 3, mac, p.now, nil})
	case r == nil:
	case r.kind == 1:
		return p.answered(r, 4, mac)
	case r.mac != mac:
		r.kind, r.mac = 3, mac
	}
	return nil, api.OK
}

func (p *plain) Tell(port int, a api.Addr, mac api.Mac, answer, over bool) ([]api.Act, api.Errno) {
	if isWrong(port, a) || isWrongMac(mac) {
		return nil, api.ErrArg
	}
	r := p.find(port, a)
	switch {
	case r == nil:
	case r.kind == 1 && answer:
		return p.answered(r, 2, mac)
	case r.kind == 1:
		return p.answered(r, 4, mac)
	case r.mac != mac && !over:
		if r.kind == 2 {
			r.kind = 3
		}
	case answer:
		r.kind, r.mac, r.since = 2, mac, p.now
	case r.mac != mac:
		r.kind, r.mac = 3, mac
	}
	return nil, api.OK
}

// order puts the entries in order: by their bytes behind the port and the number of these.
func (p *plain) order() {
	number := func(r record) []byte {
		b := addr.Bytes(r.addr)
		return append([]byte{byte(r.port), byte(len(b))}, b...)
	}
	slices.SortFunc(p.all, func(r, s record) int { return bytes.Compare(number(r), number(s)) })
}

func (p *plain) Tick() (l []api.Act) {
	p.now++
	p.order()
	var stay []record
	for _, r := range p.all {
		age := p.now - r.since
		switch {
		case r.kind == 1 && age == 3:
			for _, packet := range r.waiting {
				l = append(l, failed(r.port, r.addr, packet))
			}
			continue
		case r.kind == 4 && age == 8:
			continue
		case r.kind == 1 || r.kind == 4 && age >= 5:
			l = append(l, asked(r.port, r.addr, r.mac))
		}
		stay = append(stay, r)
	}
	p.all = stay
	return l
}

func (p *plain) Drop(port int) (l []api.Act) {
	p.order()
	var stay []record
	for _, r := range p.all {
		if r.port != port {
			stay = append(stay, r)
			continue
		}
		for _, packet := range r.waiting {
			l = append(l, lost(port, r.addr, packet))
		}
	}
	p.all = stay
	return l
}

func (p *plain) State(port int, a api.Addr) (int, api.Mac) {
	r := p.find(port, a)
	if r == nil {
		return 0, 0
	}
	return p.state(*r), r.mac
}

func (p *plain) Known() (l []api.Neigh) {
	p.order()
	for _, r := range p.all {
		l = append(l, api.Neigh{Port: r.port, Addr: r.addr, State: p.state(r), Mac: r.mac})
	}
	return l
}
