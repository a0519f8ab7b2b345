package addr

import "crossway/api"

// The classes, in the order of their numbers in api.
const (
	classBad = iota + api.ClassBad
	classNowhere
	classLoop
	classLink
	classMany
	classAll
	classPlain
)

// Class returns the class of an address.
func Class(a api.Addr) int {
	switch {
	case !Valid(a):
		return classBad
	case a.Six:
		return classSix(groupsOf(a))
	}
	return classFour(a)
}

// classFour returns the class of a valid IPv4 address.
func classFour(a api.Addr) int {
	switch {
	case a == api.Addr{}:
		return classNowhere
	case a.Lo>>24 == 127:
		return classLoop
	case a.Lo>>16 == 169<<8|254:
		return classLink
	case a == api.Addr{Lo: fourMax}:
		return classAll
	case a.Lo>>28 == 0b1110:
		return classMany
	}
	return classPlain
}

// classSix returns the class of the IPv6 address of some groups.
func classSix(g groups) int {
	switch {
	case g == groups{}:
		return classNowhere
	case g == groups{7: 1}:
		return classLoop
	case g[0]>>6 == 0b1111111010:
		return classLink
	case g[0]>>8 == 255:
		return classMany
	}
	return classPlain
}
