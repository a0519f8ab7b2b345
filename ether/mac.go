package ether

import (
	"strings"

	"crossway/addr"
	"crossway/api"
	"crossway/octet"
)

// macLen is how many bytes a link-layer address has, and macText how many its text.
const (
	macLen  = 6
	macText = 3*macLen - 1
)

// broadcast is the link-layer address of all, and the greatest one that is valid.
const broadcast api.Mac = 1<<48 - 1

// The link-layer addresses of groups begin with groupFour or groupSix, and end with
// the last bits of the address of the group, as many as the masks have.
const (
	groupFour api.Mac = 0x01005e000000
	groupSix  api.Mac = 0x333300000000
	maskFour          = 1<<23 - 1
	maskSix           = 1<<32 - 1
)

// mark is what stands between the bytes of a link-layer address in its text.
const mark = ':'

// isMac reports whether a link-layer address is valid.
func isMac(m api.Mac) bool {
	return m <= broadcast
}

// Group returns the link-layer address at which all who have an address hear; 0 if
// no more than one can have it.
func Group(a api.Addr) api.Mac {
	class := addr.Class(a)
	switch {
	case class == api.ClassAll:
		return broadcast
	case class != api.ClassMany:
		return 0
	case a.Six:
		return groupSix | api.Mac(a.Lo&maskSix)
	}
	return groupFour | api.Mac(a.Lo&maskFour)
}

// ParseMac returns the link-layer address that a text is.
func ParseMac(s string) (api.Mac, api.Errno) {
	// A text of another length is none, however long it is.
	if len(s) != macText {
		return 0, api.ErrEtherForm
	}
	var m api.Mac
	for i, r := range s {
		if i%3 == 2 {
			if r != mark {
				return 0, api.ErrEtherForm
			}
			continue
		}
		n, ok := value(r)
		if !ok {
			return 0, api.ErrEtherForm
		}
		m = m<<4 | api.Mac(n)
	}
	return m, api.OK
}

// value returns the number that a hexadecimal digit stands for; false: it is no such
// digit.
func value(r rune) (rune, bool) {
	switch {
	case '0' <= r && r <= '9':
		return r - '0', true
	case 'a' <= r && r <= 'f':
		return r - 'a' + 10, true
	case 'A' <= r && r <= 'F':
		return r - 'A' + 10, true
	}
	return 0, false
}

// digit returns the hexadecimal digit of a number from 0 to 15.
func digit(n byte) rune {
	if n < 10 {
		return '0' + rune(n)
	}
	return 'a' + rune(n-10)
}

// PrintMac returns a link-layer address as a text; the empty text if it is not
// valid.
func PrintMac(m api.Mac) string {
	if !isMac(m) {
		return ""
	}
	var text strings.Builder
	for i, b := range octet.Put(nil, macLen, uint64(m)) {
		if i > 0 {
			text.WriteRune(mark)
		}
		text.WriteRune(digit(b >> 4))
		text.WriteRune(digit(b & 15))
	}
	return text.String()
}
