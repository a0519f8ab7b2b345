package rib

import (
	"cmp"

	"crossway/addr"
	"crossway/api"
	"crossway/prefix"
)

// distances are those of the Protos that a valid path may have.
var distances = [...]int{api.ProtoNear: 0, api.ProtoStatic: 1, api.ProtoBgp: 20, api.ProtoOspf: 110, api.ProtoRip: 120}

// farthest is the distance of any other Proto.
const farthest = 255

// isProto reports whether a valid path may have a Proto.
func isProto(proto int) bool { return proto >= 0 && proto < len(distances) }

// distance returns the distance of a Proto.
func distance(proto int) int {
	if !isProto(proto) {
		return farthest
	}
	return distances[proto]
}

// path is a path that others are held against.
type path api.Path

// Better reports whether x is better than y.
func Better(x, y api.Path) bool { return path(x).isBetter(y) }

// isBetter reports whether x is better than y.
func (x path) isBetter(y api.Path) bool {
	// Vias are compared number by number, as those of any two paths need not be valid,
	// and package addr orders only addresses that are.
	return cmp.Or(
		cmp.Compare(distance(x.Proto), distance(y.Proto)),
		cmp.Compare(x.Metric, y.Metric),
		cmp.Compare(x.Port, y.Port),
		compareBools(x.Via.Six, y.Via.Six),
		cmp.Compare(x.Via.Hi, y.Via.Hi),
		cmp.Compare(x.Via.Lo, y.Via.Lo),
		compareBools(x.Away, y.Away),
	) < 0
}

// compareBools compares as cmp.Compare does; false is less than true.
func compareBools(x, y bool) int {
	switch {
	case x == y:
		return 0
	case y:
		return -1
	}
	return 1
}

// isSameWay reports whether x and y are the same way.
func (x path) isSameWay(y api.Path) bool {
	return x.Proto == y.Proto && x.Via == y.Via && x.Port == y.Port && x.Away == y.Away
}

// isValid reports whether x is a valid path to p.
func isValid(p api.Prefix, x api.Path) bool {
	if !prefix.Valid(p) || !isProto(x.Proto) || x.Metric < 0 || x.Metric > api.MaxMetric {
		return false
	}
	noVia := x.Via == api.Addr{}
	switch {
	case x.Away:
		return x.Port == 0 && noVia
	case x.Port == 0:
		return isNeighbour(p, x)
	default:
		return x.Port > 0 && x.Port <= api.MaxPorts && (noVia || isNeighbour(p, x))
	}
}

// isNeighbour reports whether Via of a path to p is a neighbour.
func isNeighbour(p api.Prefix, x api.Path) bool {
	if x.Via.Six != p.Addr.Six {
		return false
	}
	class := addr.Class(x.Via)
	return class == api.ClassPlain || class == api.ClassLink && x.Port != 0
}
