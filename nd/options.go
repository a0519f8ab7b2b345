package nd

import (
	"crossway/api"
	"crossway/octet"
)

// unit is in how many bytes the length of an option is counted, and headLen how many
// of them stand ahead of its Data.
const (
	unit    = 8
	headLen = 2
)

// The Kinds of the options with a link-layer address: that of the one who asks, and
// that of the one who owns the Target.
const (
	askerMac = 1
	ownerMac = 2
)

// macLen is how many bytes a link-layer address has; macBound is greater than each.
const (
	macLen   = 6
	macBound = 1 << (8 * macLen)
)

// Options returns the options that some bytes are read as.
func Options(s string) ([]api.Option, api.Errno) {
	var found []api.Option
	for r := octet.New([]byte(s)); r.Left() > 0; {
		kind, units := int(r.Num(1)), int(r.Num(1))
		if r.Short() {
			return nil, api.ErrNdShort
		}
		if units == 0 {
			return nil, api.ErrNdForm
		}
		data := string(r.Bytes(units*unit - headLen))
		if r.Short() {
			return nil, api.ErrNdShort
		}
		found = append(found, api.Option{Kind: kind, Data: data})
	}
	return found, api.OK
}

// putMac returns the bytes of b, followed by an option with a link-layer address.
func putMac(b []byte, kind int, mac api.Mac) []byte {
	b = octet.Put(b, 1, uint64(kind))
	b = octet.Put(b, 1, (headLen+macLen)/unit)
	return octet.Put(b, macLen, uint64(mac))
}

// macOf returns the link-layer address of the first option of a Kind that has one;
// false: there is none.
func macOf(l []api.Option, kind int) (api.Mac, bool) {
	for _, o := range l {
		if o.Kind == kind && len(o.Data) == macLen {
			n, _ := octet.Get([]byte(o.Data), 0, macLen)
			return api.Mac(n), true
		}
	}
	return 0, false
}
