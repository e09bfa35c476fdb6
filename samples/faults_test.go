package samples_test

import (
	"testing"

	"vidimus/api"
	"vidimus/fields"
	"vidimus/samples"
)

func TestFirstFault(t *testing.T) {
	for i, x := range []struct {
		rules []samples.Rule
		err   api.Errno
		path  []int
	}{
		{nil, api.OK, nil},
		{[]samples.Rule{samples.If(false, api.ErrTag, 1)}, api.OK, nil},
		{[]samples.Rule{samples.If(false, api.ErrTag, 1), samples.If(true, api.ErrShort, 2, 3), samples.If(true, api.ErrTrail)}, api.ErrShort, []int{2, 3}},
		{[]samples.Rule{samples.If(true, api.ErrTrail), samples.If(true, api.ErrShort, 2, 3)}, api.ErrTrail, nil},
	} {
		if f := samples.FirstFault(x.rules...); !samples.IsFault(f, x.err, x.path...) {
			t.Errorf("%d: %v", i, f)
		}
	}
}

func TestIsFault(t *testing.T) {
	f := fields.Fault{E: api.ErrTag, Path: []int{1, 2}}
	if !samples.IsFault(f, api.ErrTag, 1, 2) || !samples.IsFault(fields.Fault{Path: []int{}}, api.OK) {
		t.Error("IsFault is false")
	}
	if samples.IsFault(f, api.ErrArg, 1, 2) || samples.IsFault(f, api.ErrTag, 1) || samples.IsFault(f, api.ErrTag, 1, 2, 3) || samples.IsFault(f, api.ErrTag, 1, 3) {
		t.Error("IsFault is true")
	}
}

func TestPathFlaw(t *testing.T) {
	kept := []int{1, 2}
	for i, x := range []struct {
		read  func() []int
		wrong bool
	}{
		{func() []int { return []int{1} }, false},
		{func() []int { return nil }, true},
		{func() []int { return make([]int, 1, 2) }, true},
		{func() []int { return kept }, true},
	} {
		flaw := samples.PathFlaw(func() fields.Fault { return fields.Fault{E: api.ErrTag, Path: x.read()} })
		if (flaw != "") != x.wrong {
			t.Errorf("%d: %q", i, flaw)
		}
	}
}
