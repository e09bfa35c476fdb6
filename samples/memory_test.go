package samples_test

import (
	"testing"

	"vidimus/api"
	"vidimus/samples"
)

func TestClone(t *testing.T) {
	for _, e := range []api.Element{{}, null(), some(), samples.Repeat(some(), 5)} {
		c := samples.Clone(e)
		if !samples.Equal(c, e) || samples.HasSpare(c) {
			t.Errorf("Clone(%v): %v", e, c)
		}
	}
	e := some()
	samples.Spoil(samples.Clone(e))
	if !samples.Equal(e, some()) {
		t.Error("a clone shares memory with the element")
	}
}

func TestMemoryFlaw(t *testing.T) {
	kept := some()
	for i, x := range []struct {
		make  func(e api.Element) api.Element
		wrong bool
	}{
		{samples.Clone, false},
		{func(e api.Element) api.Element { return samples.Seq(samples.Clone(e), samples.Clone(e)) }, false},
		{func(e api.Element) api.Element { return samples.Seq(samples.Clone(e), e) }, true},
		{func(e api.Element) api.Element { return kept }, true},
		{func(e api.Element) api.Element { return api.Element{Bytes: make([]byte, 1, 2)} }, true},
		{func(e api.Element) api.Element { c := samples.Clone(e); return samples.Seq(c, c) }, true},
		{func(e api.Element) api.Element { c := samples.Clone(e); e.Subs[0].Bytes[0]++; return c }, true},
	} {
		if flaw := samples.MemoryFlaw(some(), x.make); (flaw != "") != x.wrong {
			t.Errorf("%d: %q", i, flaw)
		}
	}
}
