package addr

import (
	"strconv"
	"strings"

	"crossway/api"
)

// gap is what stands for the groups of 0 that an IPv6 form leaves out.
const gap = "::"

// Parse returns the address of an IPv4 form or an IPv6 form.
func Parse(s string) (api.Addr, api.Errno) {
	// Each IPv6 form has a colon, and no IPv4 form has one.
	if strings.Contains(s, ":") {
		return parseSix(s)
	}
	return parseFour(s)
}

// parseFour returns the address of an IPv4 form.
func parseFour(s string) (api.Addr, api.Errno) {
	var b [fourLen]byte
	for i := range b {
		word, rest, more := strings.Cut(s, ".")
		n, ok := decimal(word)
		last := i == len(b)-1
		if !ok || more == last {
			return api.Addr{}, api.ErrAddrForm
		}
		b[i] = n
		s = rest
	}
	return Of(b[:])
}

// decimal returns the number from 0 to 255 of a word of an IPv4 form; false: it
// is none.
func decimal(word string) (byte, bool) {
	if len(word) > 1 && word[0] == '0' {
		return 0, false
	}
	n, err := strconv.ParseUint(word, 10, 8)
	return byte(n), err == nil
}

// parseSix returns the address of an IPv6 form.
func parseSix(s string) (api.Addr, api.Errno) {
	front, back, short := strings.Cut(s, gap)
	g, n, frontOk := parseGroups(front)
	tail, m, backOk := parseGroups(back)
	if !frontOk || !backOk {
		return api.Addr{}, api.ErrAddrForm
	}
	// The gap stands for at least one group, and nothing else for a missing one.
	if short != (n+m < len(g)) {
		return api.Addr{}, api.ErrAddrForm
	}
	copy(g[len(g)-m:], tail[:m])
	return g.addr(), api.OK
}

// parseGroups returns the groups, none to eight, that are written in s one after
// the other, and how many they are; false: something else is written there.
func parseGroups(s string) (groups, int, bool) {
	var g groups
	n := 0
	for more := s != ""; more; n++ {
		// One group too many ends it, however long the rest is.
		if n == len(g) {
			return groups{}, 0, false
		}
		var word string
		word, s, more = strings.Cut(s, ":")
		value, ok := hexadecimal(word)
		if !ok {
			return groups{}, 0, false
		}
		g[n] = value
	}
	return g, n, true
}

// hexadecimal returns the value of a group as it is written; false: it is none.
func hexadecimal(word string) (uint16, bool) {
	if len(word) > 4 {
		return 0, false
	}
	n, err := strconv.ParseUint(word, 16, 16)
	return uint16(n), err == nil
}

// Print returns an address as a text: its IPv4 form, or its shortened IPv6 form.
func Print(a api.Addr) string {
	switch {
	case !Valid(a):
		return ""
	case !a.Six:
		return join(Bytes(a), 10, ".")
	}
	g := groupsOf(a)
	at, n := longest(g)
	if n < 2 {
		return join(g[:], 16, ":")
	}
	return join(g[:at], 16, ":") + gap + join(g[at+n:], 16, ":")
}

// longest returns where the longest sequence of groups of 0 begins, the first of
// those of equal length, and how many groups it has.
func longest(g groups) (at, n int) {
	run := 0
	for i, value := range g {
		if value != 0 {
			run = 0
			continue
		}
		run++
		if run > n {
			at, n = i+1-run, run
		}
	}
	return at, n
}

// join returns numbers as a text, in digits of a base, with a mark between them.
func join[N byte | uint16](numbers []N, base int, mark string) string {
	words := make([]string, len(numbers))
	for i, n := range numbers {
		words[i] = strconv.FormatUint(uint64(n), base)
	}
	return strings.Join(words, mark)
}
