package ip6

import "crossway/api"

// unit is how many bytes an extension header has at least, and what the length of a
// longer one is counted in.
const unit = 8

// lenAt is where an extension header has the number of units beyond its first one.
const lenAt = 1

// more returns how many bytes the extension header with which some bytes begin has
// beyond its first unit.
func more(s string) int {
	// A header whose length is not there has too few bytes even for its first unit.
	if len(s) <= lenAt {
		return 0
	}
	return unit * int(s[lenAt])
}

// Chain returns the extension headers of a packet, the number of what follows them,
// and its position.
func Chain(next int, data string) ([]api.Ext, int, int, api.Errno) {
	var found []api.Ext
	at, size := 0, 0
header:
	size = unit
	switch next {
	case api.ProtoHops:
		if len(found) > 0 {
			return nil, 0, 0, api.ErrSixChain
		}
		fallthrough
	case api.ProtoRoute, api.ProtoDest:
		size += more(data[at:])
		fallthrough
	case api.ProtoPiece:
		if len(found) == api.MaxExts {
			return nil, 0, 0, api.ErrSixChain
		}
		if size > len(data)-at {
			return nil, 0, 0, api.ErrSixShort
		}
		found = append(found, api.Ext{Kind: next, At: at, Len: size})
		next = int(data[at])
		at += size
		goto header
	}
	return found, next, at, api.OK
}

// Head returns how many bytes stand at the beginning of every fragment of a packet.
func Head(next int, data string) int {
	// With an error there are no headers.
	found, _, _, _ := Chain(next, data)
	size := 0
	for _, x := range found {
		switch x.Kind {
		case api.ProtoHops, api.ProtoRoute:
			size = x.At + x.Len
		case api.ProtoPiece:
			return size
		}
	}
	return size
}
