package ether

import (
	"crossway/addr"
	"crossway/api"
	"crossway/octet"
)

// arpLen is how many bytes an ARP message has, and arpNumbers how many numbers are
// in them.
const (
	arpLen     = 28
	arpNumbers = 9
)

// The numbers of an Ethernet and of IPv4 packets, which each ARP message names, and
// how many bytes an IPv4 address has.
const (
	arpLink = 1
	arpKind = api.KindFour
	fourLen = 4
)

// request and reply are what the Op of an ARP message can be.
const (
	request = 1
	reply   = 2
)

// place is where a number stands in some bytes, and how many of them it has.
type place struct {
	at, width int
}

// places are those of the numbers of an ARP message.
var places = [arpNumbers]place{
	{0, 2},  // the link
	{2, 2},  // the kind of packets
	{4, 1},  // the length of a link-layer address
	{5, 1},  // the length of an IPv4 address
	{6, 2},  // Op
	{8, 6},  // FromMac
	{14, 4}, // From
	{18, 6}, // ToMac
	{24, 4}, // To
}

// numbers are those of an ARP message, in the order of their places.
type numbers [arpNumbers]uint64

// numbersOf returns the numbers of a valid ARP message.
func numbersOf(m api.Arp) numbers {
	return numbers{
		arpLink, arpKind, macLen, fourLen, uint64(m.Op),
		uint64(m.FromMac), m.From.Lo, uint64(m.ToMac), m.To.Lo,
	}
}

// arp returns the ARP message of the numbers, whatever the first four are.
func (n numbers) arp() api.Arp {
	return api.Arp{
		Op:      int(n[4]),
		FromMac: api.Mac(n[5]),
		From:    api.Addr{Lo: n[6]},
		ToMac:   api.Mac(n[7]),
		To:      api.Addr{Lo: n[8]},
	}
}

// isArp reports whether an ARP message is valid.
func isArp(m api.Arp) bool {
	return (m.Op == request || m.Op == reply) &&
		isMac(m.FromMac) && isFour(m.From) &&
		isMac(m.ToMac) && isFour(m.To)
}

// isFour reports whether an address is a valid IPv4 one.
func isFour(a api.Addr) bool {
	return !a.Six && addr.Valid(a)
}

// LayArp returns the bytes of an ARP message.
func LayArp(m api.Arp) (string, api.Errno) {
	if !isArp(m) {
		return "", api.ErrEtherForm
	}
	n := numbersOf(m)
	b := make([]byte, arpLen)
	for i, p := range places {
		copy(b[p.at:], octet.Put(nil, p.width, n[i]))
	}
	return string(b), api.OK
}

// TakeArp returns the ARP message with which some bytes begin.
func TakeArp(s string) (api.Arp, api.Errno) {
	if len(s) < arpLen {
		return api.Arp{}, api.ErrEtherShort
	}
	b := []byte(s[:arpLen])
	var n numbers
	for i, p := range places {
		n[i], _ = octet.Get(b, p.at, p.width)
	}
	m := n.arp()
	// A message does not keep the first four numbers: what it lays must have them.
	if !isArp(m) || n != numbersOf(m) {
		return api.Arp{}, api.ErrEtherForm
	}
	return m, api.OK
}
