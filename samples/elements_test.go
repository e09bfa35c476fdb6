package samples_test

import (
	"slices"
	"testing"

	"vidimus/api"
	"vidimus/samples"
)

// The encodings of these elements are 05 00 and 30 07 02 01 07 30 02 05 00.
func null() api.Element { return samples.Leaf(5) }
func some() api.Element { return samples.Seq(samples.Leaf(2, 7), samples.Seq(null())) }

func TestMakingElements(t *testing.T) {
	sequence := api.Tag{Constructed: true, Number: 16}
	want := api.Element{Tag: sequence, Subs: []api.Element{
		{Tag: api.Tag{Number: 2}, Bytes: []byte{7}},
		{Tag: sequence, Subs: []api.Element{{Tag: api.Tag{Number: 5}}}},
	}}
	for i, e := range []api.Element{some(), samples.Seq(want.Subs...), samples.Repeat(want.Subs[0], 1, want.Subs[1])} {
		if !samples.Equal(e, want) {
			t.Errorf("%d: %v", i, e)
		}
	}
	if e := samples.Nest(null(), 2); !samples.Equal(e, samples.Seq(want.Subs[1])) {
		t.Errorf("Nest: %v", e)
	}
	if e := samples.Repeat(null(), 3); !samples.Equal(e, samples.Seq(null(), null(), null())) {
		t.Errorf("Repeat: %v", e)
	}
}

func TestSetAndSub(t *testing.T) {
	set := samples.Set(null(), some())
	if set.Tag != (api.Tag{Constructed: true, Number: 17}) || !samples.Equal(samples.Seq(set.Subs...), samples.Seq(null(), some())) {
		t.Errorf("Set: %v", set)
	}
	if !samples.Equal(samples.Sub(set, 0), null()) || !samples.Equal(samples.Sub(set, 1), some()) || !samples.IsZero(samples.Sub(set, 2)) {
		t.Errorf("Sub: %v, %v, %v", samples.Sub(set, 0), samples.Sub(set, 1), samples.Sub(set, 2))
	}
}

func TestTags(t *testing.T) {
	list := samples.Tags()
	if list[0] != samples.Seq().Tag || list[1] != samples.Set().Tag {
		t.Errorf("the first ones are %v", list[:2])
	}
	for i, tag := range list {
		if slices.Contains(list[:i], tag) {
			t.Errorf("%v is there twice", tag)
		}
	}
}

func TestCyclic(t *testing.T) {
	for i, e := range samples.Cyclic() {
		levels := 0
		for len(e.Subs) > 0 && levels < 100 {
			e = e.Subs[len(e.Subs)-1]
			levels++
		}
		if levels < 100 {
			t.Errorf("%d ends after %d levels", i, levels)
		}
	}
}

func TestEqual(t *testing.T) {
	list := []api.Element{
		{},
		null(),
		samples.Leaf(5, 0),
		samples.Leaf(5, 1),
		samples.Leaf(6, 0),
		{Tag: api.Tag{Class: 1, Number: 5}},
		{Tag: api.Tag{Constructed: true, Number: 5}},
		samples.Seq(),
		samples.Seq(null()),
		samples.Seq(null(), null()),
		some(),
	}
	for i, a := range list {
		for k, b := range list {
			if samples.Equal(a, b) != (i == k) {
				t.Errorf("Equal of %v and %v", a, b)
			}
		}
		if samples.IsZero(a) != (i == 0) {
			t.Errorf("IsZero of %v", a)
		}
	}
	if !samples.IsZero(api.Element{Bytes: []byte{}, Subs: []api.Element{}}) {
		t.Error("empty slices count as others than nil")
	}
}

func TestSpoil(t *testing.T) {
	e := some()
	inner := e.Subs[1]
	bytes := e.Subs[0].Bytes
	samples.Spoil(e)
	if samples.Equal(e.Subs[0], some().Subs[0]) || samples.Equal(e.Subs[1], some().Subs[1]) || samples.Equal(inner.Subs[0], null()) || slices.Equal(bytes, []byte{7}) {
		t.Errorf("something stays: %v, %v, %v", e, inner, bytes)
	}
	part := some()
	samples.Spoil(samples.Seq(part, part))
	if samples.Equal(part.Subs[0], some().Subs[0]) || samples.Equal(part.Subs[1], some().Subs[1]) {
		t.Errorf("something is changed back: %v", part)
	}
}

func TestHasSpare(t *testing.T) {
	exact := samples.Seq(samples.Leaf(2, 7), samples.Seq(null()))
	bytes := samples.Leaf(2)
	bytes.Bytes = make([]byte, 1, 2)
	subs := samples.Seq()
	subs.Subs = make([]api.Element, 0, 1)
	for i, x := range []struct {
		e    api.Element
		want bool
	}{{exact, false}, {api.Element{}, false}, {bytes, true}, {subs, true}, {samples.Seq(null(), bytes), true}, {samples.Seq(subs, null()), true}} {
		if samples.HasSpare(x.e) != x.want {
			t.Errorf("%d: HasSpare is %v", i, !x.want)
		}
	}
}
