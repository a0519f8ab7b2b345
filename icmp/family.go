package icmp

import (
	"strings"

	"crossway/api"
	"crossway/octet"
	"crossway/tally"
)

// The kinds of error messages of IPv4 that have no name in package api.
const (
	fourQuench   = 4
	fourRedirect = 5
)

// maxSixError is the greatest kind of an error message of IPv6.
const maxSixError = 127

// family is a message as its family sees it.
type family interface {
	// What both families have in common.
	isValid() bool
	unchecked() []byte

	// What each has of its own.
	mayGo(from, to api.Addr) bool
	sum(b []byte, from, to api.Addr) uint16
	isError() bool
	reply() (api.Icmp, api.Errno)
}

// familyOf returns a message as its family sees it.
func familyOf(m api.Icmp) family {
	if m.Six {
		return six{common(m)}
	}
	return four{common(m)}
}

// common is what the messages of both families have in common.
type common api.Icmp

// within reports whether a number is from 0 to most.
func within(n, most int) bool {
	return n >= 0 && n <= most
}

// isValid reports whether the message is valid.
func (c common) isValid() bool {
	return within(c.Kind, maxByte) && within(c.Code, maxByte) && within(c.Rest, maxRest) &&
		len(c.Data) <= maxData
}

// unchecked returns the bytes of a valid message, with 0 in the place of its checksum.
func (c common) unchecked() []byte {
	b := octet.Put(nil, 1, uint64(c.Kind))
	b = octet.Put(b, 1, uint64(c.Code))
	b = octet.Put(b, checkLen, 0)
	b = octet.Put(b, 4, uint64(c.Rest))
	return append(b, c.Data...)
}

// answered returns the message with the kind of a reply, if it has that of a request.
func (c common) answered(ask, reply int) (api.Icmp, api.Errno) {
	if c.Kind != ask || c.Code != 0 {
		return api.Icmp{}, api.ErrIcmpForm
	}
	c.Kind = reply
	// What is returned is not to keep what was given.
	c.Data = strings.Clone(c.Data)
	return api.Icmp(c), api.OK
}

// four is an ICMP message.
type four struct{ common }

// mayGo reports whether the message may go between two addresses: it has nothing of
// them.
func (four) mayGo(_, _ api.Addr) bool { return true }

// sum returns the sum of the bytes of a message.
func (four) sum(b []byte, _, _ api.Addr) uint16 { return tally.Sum(b) }

// isError reports whether the message is an error message.
func (m four) isError() bool {
	switch m.Kind {
	case api.FourUnreach, fourQuench, fourRedirect, api.FourTime, api.FourParam:
		return true
	}
	return false
}

// reply returns the reply to the message.
func (m four) reply() (api.Icmp, api.Errno) {
	return m.answered(api.FourAsk, api.FourReply)
}

// six is an ICMPv6 message.
type six struct{ common }

// mayGo reports whether the message may go between two addresses.
func (six) mayGo(from, to api.Addr) bool { return from.Six && to.Six }

// sum returns the sum of the bytes of a message and of the header that stands for its
// addresses.
func (six) sum(b []byte, from, to api.Addr) uint16 {
	return tally.Add(tally.Pseudo(from, to, len(b), api.ProtoIcmp6), tally.Sum(b))
}

// isError reports whether the message is an error message.
func (m six) isError() bool { return within(m.Kind, maxSixError) }

// reply returns the reply to the message.
func (m six) reply() (api.Icmp, api.Errno) {
	return m.answered(api.SixAsk, api.SixReply)
}
