package excuse

import (
	"crossway/addr"
	"crossway/api"
	"crossway/icmp"
	"crossway/ip4"
	"crossway/ip6"
)

// May reports whether an error may be sent for a packet.
func May(packet string) bool {
	if isSix(packet) {
		_, ok := takeSix(packet)
		return ok
	}
	_, ok := takeFour(packet)
	return ok
}

// takeFour returns an IPv4 packet for which an error may be sent; false if none may.
func takeFour(packet string) (api.Four, bool) {
	p, e := ip4.Take(packet)
	if e != api.OK || !mayAnswer(p.From, p.To) || p.Off != 0 {
		return api.Four{}, false
	}
	if p.Proto == api.ProtoIcmp && !isNoError(p.Data, false) {
		return api.Four{}, false
	}
	return p, true
}

// takeSix returns an IPv6 packet for which an error may be sent; false if none may.
func takeSix(packet string) (api.Six, bool) {
	p, e := ip6.Take(packet)
	if e != api.OK || !mayAnswer(p.From, p.To) {
		return api.Six{}, false
	}
	proto, data, ok := carried(p)
	if !ok || proto == api.ProtoIcmp6 && !isNoError(data, true) {
		return api.Six{}, false
	}
	return p, true
}

// mayAnswer reports whether an error may be sent for what goes from one address to
// another one.
func mayAnswer(from, to api.Addr) bool {
	class := addr.Class(to)
	return isHost(from) && class != api.ClassMany && class != api.ClassAll
}

// isNoError reports whether the bytes of a message begin with a Kind that is not an error.
func isNoError(data string, six bool) bool {
	return data != "" && !icmp.IsError(api.Icmp{Six: six, Kind: int(data[0])})
}

// carried returns the number and the bytes of what follows the extension headers of a
// packet; false if these are not accepted, or if it is a fragment other than the first.
func carried(p api.Six) (proto int, data string, ok bool) {
	headers, proto, at, e := ip6.Chain(p.Next, p.Data)
	if e != api.OK {
		return 0, "", false
	}
	for _, x := range headers {
		if x.Kind == api.ProtoPiece && !isFirst(p.Data[x.At:]) {
			return 0, "", false
		}
	}
	return proto, p.Data[at:], true
}

// isFirst reports whether a header of the kind 44 has 0 in the upper 13 bits of its bytes 2
// and 3, as in a first fragment.
func isFirst(header string) bool { return header[2] == 0 && header[3]>>3 == 0 }
