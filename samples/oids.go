package samples

import (
	"math"

	"vidimus/api"
)

// Arcs returns an OID with N and arcs, whether it is valid or not.
func Arcs(n uint8, arcs ...uint32) api.OID {
	o := api.OID{N: n}
	copy(o.Arcs[:], arcs)
	return o
}

// OIDs lists valid OIDs, some of them with the greatest arcs and the most.
func OIDs() []api.OID {
	return []api.OID{
		Arcs(7, 1, 2, 840, 113549, 1, 1, 11),
		Arcs(2, 0, 0),
		Arcs(3, 1, 2, 3),
		Arcs(4, 1, 2, 3),
		Arcs(2, 2, 999),
		Arcs(3, 2, math.MaxUint32-80, math.MaxUint32),
		Arcs(16, 1, 2, 3, 4, 5, 6, 7, 8, 9, 10, 11, 12, 13, 14, 15, 16),
	}
}

// NoOIDs lists OIDs that are not valid.
func NoOIDs() []api.OID {
	return []api.OID{
		{},
		Arcs(1, 1),
		Arcs(3, 3, 2, 3),
		Arcs(3, 1, 40, 3),
		Arcs(2, 2, math.MaxUint32-79),
		Arcs(3, 1, 2, 3, 4),
		Arcs(17, 1, 2, 3),
		Arcs(255, 1, 2, 3),
	}
}
