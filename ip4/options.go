package ip4

import (
	"strings"

	"crossway/api"
)

// The bytes that are read in another way than a Kind with a length behind it.
const (
	kindEnd   = 0
	kindAlone = 1
)

// kindLen is how many bytes an option has ahead of its Data.
const kindLen = 2

// minKept is the least Kind of the options that are kept.
const minKept = 128

// walk hands the bytes of each option to a function, in order, up to the first that
// cannot be read; false: there is such a one.
func walk(s string, each func(option string)) bool {
	at, size := 0, 0
next:
	if at == len(s) || s[at] == kindEnd {
		return true
	}
	if s[at] == kindAlone {
		size = 1
		goto found
	}
	if len(s)-at < kindLen {
		return false
	}
	size = int(s[at+1])
	if size < kindLen || size > len(s)-at {
		return false
	}
found:
	each(s[at : at+size])
	at += size
	goto next
}

// areOptions reports whether some bytes are valid options.
func areOptions(s string) bool {
	return walk(s, func(string) {})
}

// Options returns the options that some bytes are read as.
func Options(s string) ([]api.Option, api.Errno) {
	var found []api.Option
	ok := walk(s, func(option string) {
		o := api.Option{Kind: int(option[0])}
		if len(option) > kindLen {
			// A piece of s would keep all of s.
			o.Data = strings.Clone(option[kindLen:])
		}
		found = append(found, o)
	})
	if !ok {
		return nil, api.ErrFourForm
	}
	return found, api.OK
}

// Kept returns the bytes of the options that stand in each piece of a packet, padded
// with zeros.
func Kept(s string) string {
	var kept strings.Builder
	ok := walk(s, func(option string) {
		if option[0] >= minKept {
			kept.WriteString(option)
		}
	})
	if !ok {
		return ""
	}
	for kept.Len()%unit != 0 {
		kept.WriteByte(kindEnd)
	}
	return kept.String()
}
