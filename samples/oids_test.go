package samples_test

import (
	"testing"

	"vidimus/api"
	"vidimus/oids"
	"vidimus/samples"
)

func TestOIDs(t *testing.T) {
	if o := samples.Arcs(2, 1, 2, 3); o != (api.OID{N: 2, Arcs: [16]uint32{1, 2, 3}}) {
		t.Errorf("Arcs: %v", o)
	}
	seen := map[api.OID]bool{}
	for _, o := range samples.OIDs() {
		if oids.Check(o) != api.OK || seen[o] {
			t.Errorf("%v is not valid, or there twice", o)
		}
		seen[o] = true
	}
	for _, o := range samples.NoOIDs() {
		if oids.Check(o) == api.OK || seen[o] {
			t.Errorf("%v is valid, or there twice", o)
		}
		seen[o] = true
	}
	if len(samples.OIDs()) == 0 || len(samples.NoOIDs()) == 0 {
		t.Error("there are none")
	}
}
