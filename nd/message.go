package nd

import (
	"crossway/addr"
	"crossway/api"
)

// targetLen is how many bytes of a message's Data its Target has; its options follow.
const targetLen = 16

// The bits of Rest that an advertisement says something by.
const (
	restRouter = 1 << 31
	restAnswer = 1 << 30
	restOver   = 1 << 29
)

// message is a solicitation or an advertisement.
type message interface {
	subject() subject
}

type (
	solicit api.Solicit
	advert  api.Advert
)

// subject is what both messages have: the address that they are about, and the
// link-layer address of their sender, if they tell it.
type subject struct {
	target api.Addr
	hasMac bool
	mac    api.Mac
}

func (x solicit) subject() subject { return subject{x.Target, x.HasMac, x.Mac} }
func (x advert) subject() subject  { return subject{x.Target, x.HasMac, x.Mac} }

// isValid reports whether the subject is that of a valid message.
func (s subject) isValid() bool {
	return s.target.Six && mayBeTarget(s.target) && s.mac < macBound && (s.hasMac || s.mac == 0)
}

// mayBeTarget reports whether an IPv6 address is that of a single owner, who can be
// asked for.
func mayBeTarget(a api.Addr) bool {
	class := addr.Class(a)
	return class != api.ClassMany && class != api.ClassNowhere
}

// lay returns a message's layer 8 message.
func lay(x message) (api.Icmp, api.Errno) {
	s := x.subject()
	if !s.isValid() {
		return api.Icmp{}, api.ErrNdForm
	}
	kind, option, rest := numbers(x)
	data := addr.Bytes(s.target)
	if s.hasMac {
		data = putMac(data, option, s.mac)
	}
	return api.Icmp{Six: true, Kind: kind, Rest: rest, Data: string(data)}, api.OK
}

// numbers returns the Kind of a message, the Kind of its option with a link-layer
// address, and its Rest.
func numbers(x message) (kind, option, rest int) {
	switch x := x.(type) {
	case solicit:
		return api.SixSolicit, askerMac, 0
	case advert:
		return api.SixAdvert, ownerMac, x.rest()
	}
	return 0, 0, 0
}

// rest returns the Rest of an advertisement's message.
func (x advert) rest() (n int) {
	if x.Router {
		n |= restRouter
	}
	if x.Answer {
		n |= restAnswer
	}
	if x.Over {
		n |= restOver
	}
	return n
}

// take returns the subject of a message that is to have a Kind, with the link-layer
// address of an option of a Kind.
func take(m api.Icmp, kind, option int) (subject, api.Errno) {
	switch {
	case !m.Six || m.Kind != kind || m.Code != 0:
		return subject{}, api.ErrNdForm
	case len(m.Data) < targetLen:
		return subject{}, api.ErrNdShort
	}
	target, _ := addr.Of([]byte(m.Data[:targetLen]))
	if !mayBeTarget(target) {
		return subject{}, api.ErrNdForm
	}
	l, e := Options(m.Data[targetLen:])
	if e != api.OK {
		return subject{}, e
	}
	mac, hasMac := macOf(l, option)
	return subject{target, hasMac, mac}, api.OK
}
