package excuse_test

import (
	"strings"

	"crossway/api"
	"crossway/ip4"
	"crossway/ip6"
)

// plainIsSix is the family of a packet.
func plainIsSix(s string) bool { return len(s) > 0 && s[0] >= 0x60 && s[0] <= 0x6f }

// number is that of some bytes, the most significant one first.
func number(s string) int {
	n := 0
	for i := range len(s) {
		n = n*256 + int(s[i])
	}
	return n
}

// plainWhole is a packet without what stands behind its end, and the number of bytes of
// its header; false if it is not accepted.
func plainWhole(s string) (string, int, bool) {
	if plainIsSix(s) {
		if _, e := ip6.Take(s); e != api.OK {
			return "", 0, false
		}
		return s[:40+number(s[4:6])], 40, true
	}
	if _, e := ip4.Take(s); e != api.OK {
		return "", 0, false
	}
	return s[:number(s[2:4])], int(s[0]%16) * 4, true
}

// plainMany tells whether the bytes of an address are of the classes Many or All.
func plainMany(s string) bool {
	if len(s) == 16 {
		return s[0] == 255
	}
	return s[0] >= 224 && s[0] < 240 || s == "\xff\xff\xff\xff"
}

// plainHost tells whether the bytes of an address are of the classes Plain or Link.
func plainHost(s string) bool {
	nowhere := strings.Repeat("\x00", len(s))
	if len(s) == 16 {
		return s != nowhere && s != nowhere[:15]+"\x01" && !plainMany(s)
	}
	return s != nowhere && s[0] != 127 && !plainMany(s)
}

// plainMay is what the chapter says of a packet for which an error may be sent, byte by
// byte.
func plainMay(s string) bool {
	whole, size, ok := plainWhole(s)
	if !ok {
		return false
	}
	if plainIsSix(s) {
		return plainHost(whole[8:24]) && !plainMany(whole[24:40]) && plainCarried(int(whole[6]), whole[40:], 0)
	}
	if !plainHost(whole[12:16]) || plainMany(whole[16:20]) || number(whole[6:8])%8192 != 0 {
		return false
	}
	if whole[9] != 1 {
		return true
	}
	return len(whole) > size && !strings.ContainsRune("\x03\x04\x05\x0b\x0c", rune(whole[size]))
}

// plainCarried is what the chapter says of the Next and the Data of a packet, behind so
// many extension headers.
func plainCarried(next int, data string, count int) bool {
	size := 8
	switch next {
	case 58:
		return len(data) > 0 && data[0] >= 128
	case 0, 43, 60:
		if len(data) >= 8 {
			size = 8 * (int(data[1]) + 1)
		}
	case 44:
		if len(data) >= 8 && number(data[2:4])/8 != 0 {
			return false
		}
	default:
		return true
	}
	if next == 0 && count > 0 || count == 16 || len(data) < size {
		return false
	}
	return plainCarried(int(data[0]), data[size:], count+1)
}

// plainBytes is the bytes of an address.
func plainBytes(a api.Addr) string {
	if a.Six {
		return big(a.Hi, 8) + big(a.Lo, 8)
	}
	return big(a.Lo, 4)
}

// summed is some bytes with the checksum at a place that they should have, if others are
// summed up with them.
func summed(s string, place int, others string) string {
	all := others + s
	if len(all)%2 == 1 {
		all += "\x00"
	}
	n := 0
	for i := 0; i < len(all); i += 2 {
		n += number(all[i : i+2])
	}
	// Of what is summed up here something is never 0.
	return s[:place] + big(uint64(65535-(n-1)%65535-1), 2) + s[place+2:]
}

// plainQuote is what is quoted of a packet.
func plainQuote(s string) string {
	whole, size, _ := plainWhole(s)
	if plainIsSix(s) {
		return whole[:min(len(whole), 1280-48)]
	}
	return whole[:min(len(whole), size+8)]
}

// plainOf is the packet that Y2 describes.
func plainOf(why int, s string, from api.Addr, rest int) string {
	if plainIsSix(s) {
		x, ends := sixTold[why-1], plainBytes(from)+s[8:24]
		if why != 4 && why != 6 {
			rest = 0
		}
		m := string([]byte{byte(x.kind), byte(x.code), 0, 0}) + big(uint64(rest), 4) + plainQuote(s)
		m = summed(m, 2, ends+big(uint64(len(m)), 4)+"\x00\x00\x00\x3a")
		return "\x60\x00\x00\x00" + big(uint64(len(m)), 2) + "\x3a\x40" + ends + m
	}
	x, told := fourTold[why-1], "\x00\x00\x00\x00"
	switch why {
	case 4:
		told = big(uint64(rest), 4)
	case 6:
		told = big(uint64(rest), 1) + "\x00\x00\x00"
	}
	m := summed(string([]byte{byte(x.kind), byte(x.code), 0, 0})+told+plainQuote(s), 2, "")
	head := "\x45\x00" + big(uint64(20+len(m)), 2) + "\x00\x00\x00\x00\x40\x01\x00\x00" + plainBytes(from) + s[12:16]
	return summed(head, 10, "") + m
}
