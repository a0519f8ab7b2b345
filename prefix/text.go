package prefix

import (
	"strconv"
	"strings"

	"crossway/addr"
	"crossway/api"
)

// slash is what stands between the address and the Bits.
const slash = "/"

// maxDigits is how many digits the Bits have at most.
const maxDigits = 3

// Parse returns the prefix that a text is.
func Parse(s string) (api.Prefix, api.Errno) {
	front, back, ok := strings.Cut(s, slash)
	if !ok {
		return api.Prefix{}, api.ErrPrefixForm
	}
	a, e := addr.Parse(front)
	if e != api.OK {
		return api.Prefix{}, e
	}
	bits, ok := number(back)
	p := api.Prefix{Addr: a, Bits: bits}
	if !ok || !Valid(p) {
		return api.Prefix{}, api.ErrPrefixForm
	}
	return p, api.OK
}

// number returns the Bits that a word writes; false: it writes none.
func number(word string) (int, bool) {
	if len(word) > maxDigits || len(word) > 1 && word[0] == '0' {
		return 0, false
	}
	n, err := strconv.ParseUint(word, 10, 0)
	return int(n), err == nil
}

// Print returns a prefix as a text; the empty text if it is not valid.
func Print(p api.Prefix) string {
	if !Valid(p) {
		return ""
	}
	return addr.Print(p.Addr) + slash + strconv.Itoa(p.Bits)
}
