package fields_test

import (
	"bytes"
	"encoding/asn1"
	"math"
	"math/rand"
	"slices"
	"testing"

	"vidimus/api"
	"vidimus/elements"
	"vidimus/fields"
	"vidimus/samples"
)

// The limits of the chapter and of rule R8.
const (
	maxList   = 256
	maxText   = 1 << 20
	maxLevels = 1 << 16
)

// The tags of most elements here.
var (
	sequence = api.Tag{Constructed: true, Number: api.TagSequence}
	set      = api.Tag{Constructed: true, Number: api.TagSet}
	integer  = api.Tag{Number: api.TagInteger}
	boolean  = api.Tag{Number: api.TagBoolean}
	octets   = api.Tag{Number: api.TagOctets}
)

// extremes are numbers that are no index of anything.
var extremes = []int{math.MinInt, math.MinInt32, -2, -1, math.MaxInt32, math.MaxInt}

// seq returns a SEQUENCE.
func seq(subs ...api.Element) api.Element { return api.Element{Tag: sequence, Subs: subs} }

// num returns an INTEGER.
func num(content ...byte) api.Element { return api.Element{Tag: integer, Bytes: content} }

// blob returns an OCTET STRING of n bytes.
func blob(n int) api.Element { return api.Element{Tag: octets, Bytes: make([]byte, n)} }

// nest returns e in n SEQUENCEs.
func nest(e api.Element, n int) api.Element {
	for range n {
		e = seq(e)
	}
	return e
}

// tagged returns an element with this tag alone.
func tagged(t api.Tag) api.Element { return api.Element{Tag: t} }

// strange lists tags that differ in one field only, valid and other ones.
func strange() []api.Tag {
	return []api.Tag{
		sequence,
		{Constructed: false, Number: api.TagSequence},
		{Class: api.Application, Constructed: true, Number: api.TagSequence},
		{Class: api.Context, Constructed: true, Number: api.TagSequence},
		{Class: 200, Constructed: true, Number: api.TagSequence},
		{Constructed: true, Number: api.TagSet},
		{Constructed: true, Number: 0},
		{Constructed: true, Number: math.MaxUint32},
		{},
	}
}

// invalid lists elements that are not valid, with the error of elements.Check.
func invalid() []struct {
	e   api.Element
	err api.Errno
} {
	return []struct {
		e   api.Element
		err api.Errno
	}{
		{api.Element{}, api.ErrTag},
		{api.Element{Tag: api.Tag{Class: 4}}, api.ErrArg},
		{api.Element{Tag: sequence, Bytes: []byte{1}}, api.ErrArg},
		{api.Element{Tag: integer, Subs: []api.Element{num(1)}}, api.ErrArg},
		{api.Element{Tag: integer, Bytes: []byte{2}, Subs: []api.Element{num(1), num(2)}}, api.ErrArg},
		{nest(num(1), 16), api.ErrDepth},
		{seq(slices.Repeat([]api.Element{num()}, 8192)...), api.ErrLimit},
		{cyclic(), api.ErrDepth},
	}
}

// cyclic returns an element that contains itself: its Subs are an INTEGER and itself.
func cyclic() api.Element {
	e := seq(num(7), api.Element{})
	e.Subs[1] = e
	return e
}

// same compares faults as the document does.
func same(f, g fields.Fault) bool { return samples.IsFault(f, g.E, g.Path...) }

// P12.1

// field is a field as a function of the elements that are left: how many of them it takes; or an error.
type field func(left []api.Element) (took int, err api.Errno)

// meaning returns what a field means.
func meaning(f fields.Field) field {
	fits := func(t api.Tag) bool {
		return f.Any || t.Class == f.Tag.Class && t.Constructed == f.Tag.Constructed && t.Number == f.Tag.Number
	}
	return func(left []api.Element) (int, api.Errno) {
		switch {
		case len(left) > 0 && fits(left[0].Tag):
			return 1, api.OK
		case f.Optional:
			return 0, api.OK
		case len(left) == 0:
			return 0, api.ErrShort
		}
		return 0, api.ErrTag
	}
}

// readFields reads fields after the chapter. at is the number of the elements before subs.
func readFields(subs []api.Element, l []fields.Field, at int) ([]int, fields.Fault) {
	if len(l) == 0 {
		if len(subs) > 0 {
			return nil, fields.Fault{E: api.ErrTrail, Path: []int{at}}
		}
		return []int{}, fields.Fault{}
	}
	took, err := meaning(l[0])(subs)
	if err == api.ErrShort {
		return nil, fields.Fault{E: err}
	}
	if err != api.OK {
		return nil, fields.Fault{E: err, Path: []int{at}}
	}
	rest, f := readFields(subs[took:], l[1:], at+took)
	if f.E != api.OK {
		return nil, f
	}
	return append([]int{[]int{-1, at}[took]}, rest...), f
}

// checkSequence compares Sequence with the chapter, and with its consequences. (P12.1, P12.9)
func checkSequence(t *testing.T, e api.Element, l []fields.Field) {
	t.Helper()
	want, fault := readFields(e.Subs, l, 0)
	got, f := fields.Sequence(e, e.Tag, l)
	if !slices.Equal(got, want) || !same(f, fault) {
		t.Fatalf("Sequence(%v, %v): %v, %v, want %v, %v", e.Subs, l, got, f, want, fault)
	}
	if f.E != api.OK {
		return
	}
	present := slices.DeleteFunc(got, func(i int) bool { return i == -1 })
	for k, i := range present {
		if i != k {
			t.Fatalf("Sequence(%v, %v): the indices %v", e.Subs, l, got)
		}
	}
	if len(present) != len(e.Subs) {
		t.Fatalf("Sequence(%v, %v): %d of %d elements", e.Subs, l, len(present), len(e.Subs))
	}
}

func TestSequenceOfAllShortLists(t *testing.T) {
	var kinds []fields.Field
	for _, optional := range []bool{false, true} {
		kinds = append(kinds,
			fields.Field{Tag: integer, Optional: optional},
			fields.Field{Tag: boolean, Optional: optional},
			fields.Field{Tag: boolean, Any: true, Optional: optional})
	}
	var lists [][]fields.Field
	samples.Lists(kinds, 4, func(l []fields.Field) { lists = append(lists, l) })
	samples.Lists([]api.Element{num(5), tagged(boolean), blob(1)}, 4, func(subs []api.Element) {
		for _, l := range lists {
			checkSequence(t, seq(subs...), l)
		}
	})
}

func TestSequenceTakesTheFirstFieldThatMatches(t *testing.T) {
	one, maybe, rest := fields.Field{Tag: integer}, fields.Field{Tag: integer, Optional: true}, fields.Field{Any: true, Optional: true}
	// The optional field takes the only element, though the one after it needs it.
	if got, f := fields.Sequence(seq(num(1)), sequence, []fields.Field{maybe, one}); len(got) > 0 || !samples.IsFault(f, api.ErrShort) {
		t.Errorf("an optional field before one that is not: %v, %v", got, f)
	}
	if got, f := fields.Sequence(seq(num(1), num(2)), sequence, []fields.Field{maybe, rest, maybe}); !slices.Equal(got, []int{0, 1, -1}) || f.E != api.OK {
		t.Errorf("optional fields: %v, %v", got, f)
	}
	if got, f := fields.Sequence(seq(), sequence, []fields.Field{maybe, rest}); !slices.Equal(got, []int{-1, -1}) || f.E != api.OK {
		t.Errorf("optional fields of nothing: %v, %v", got, f)
	}
}

func TestSequenceComparesWholeTags(t *testing.T) {
	for i, a := range strange() {
		for k, b := range strange() {
			e := seq(tagged(a))
			if i == k {
				checkSequence(t, e, []fields.Field{{Tag: b}})
			} else if got, f := fields.Sequence(e, sequence, []fields.Field{{Tag: b}}); len(got) > 0 || !samples.IsFault(f, api.ErrTag, 0) {
				t.Errorf("the field %v and the tag %v: %v, %v", b, a, got, f)
			}
			if got, f := fields.Sequence(e, sequence, []fields.Field{{Tag: b, Any: true}}); !slices.Equal(got, []int{0}) || f.E != api.OK {
				t.Errorf("any and the tag %v: %v, %v", a, got, f)
			}
			want := fields.Fault{}
			if i != k {
				want.E = api.ErrTag
			}
			if got, f := fields.Sequence(tagged(a), b, nil); len(got) > 0 || !same(f, want) {
				t.Errorf("an element with the tag %v instead of %v: %v", a, b, f)
			}
		}
	}
}

func TestSequenceOfManyFields(t *testing.T) {
	most := slices.Repeat([]fields.Field{{Any: true}}, maxList)
	e := seq(slices.Repeat([]api.Element{num(1)}, maxList)...)
	checkSequence(t, e, most)
	if got, f := fields.Sequence(e, sequence, most); len(got) != maxList || got[maxList-1] != maxList-1 || f.E != api.OK {
		t.Errorf("%d fields: %d indices, %v", maxList, len(got), f)
	}
	checkSequence(t, seq(), slices.Repeat([]fields.Field{{Optional: true}}, maxList))
	// The limit is about the fields only.
	checkSequence(t, seq(slices.Repeat([]api.Element{num(1)}, maxList+44)...), most)
	checkSequence(t, seq(slices.Repeat([]api.Element{num(1)}, 10000)...), nil)
	for _, n := range []int{maxList + 1, maxList + 2, 10000} {
		for _, kind := range []fields.Field{{Any: true}, {Optional: true}, {}} {
			l := slices.Repeat([]fields.Field{kind}, n)
			for _, tag := range []api.Tag{sequence, integer} {
				if got, f := fields.Sequence(e, tag, l); len(got) > 0 || !samples.IsFault(f, api.ErrLimit) {
					t.Errorf("%d fields: %d indices, %v", n, len(got), f)
				}
			}
		}
	}
}

func TestSequenceOrderOfFaults(t *testing.T) {
	// The tag comes before the fields, and an element that is wrong before what is left.
	for _, l := range [][]fields.Field{nil, {{Tag: integer}}, {{Tag: boolean}}, {{Tag: integer}, {Tag: integer}, {Tag: integer}}} {
		if got, f := fields.Sequence(seq(num(1), num(2)), set, l); len(got) > 0 || !samples.IsFault(f, api.ErrTag) {
			t.Errorf("another tag: %v, %v", got, f)
		}
	}
	if got, f := fields.Sequence(seq(num(1), num(2), num(3)), sequence, []fields.Field{{Tag: integer}, {Tag: boolean}}); len(got) > 0 || !samples.IsFault(f, api.ErrTag, 1) {
		t.Errorf("an element that is wrong: %v, %v", got, f)
	}
}

func TestSequenceAcceptsInvalidElements(t *testing.T) {
	for i, x := range invalid() {
		l := slices.Repeat([]fields.Field{{Any: true, Optional: true}}, 4)
		checkSequence(t, x.e, l)
		checkSequence(t, seq(x.e, num(1), x.e), l)
		checkSequence(t, seq(x.e), []fields.Field{{Tag: x.e.Tag}})
		if got, f := fields.Sequence(seq(x.e, x.e), sequence, []fields.Field{{Tag: x.e.Tag}, {Tag: x.e.Tag}}); !slices.Equal(got, []int{0, 1}) || f.E != api.OK {
			t.Errorf("invalid element %d: %v, %v", i, got, f)
		}
	}
}

// P12.2

// listFault is the fault of List after the chapter, for a right tag.
func listFault(count, least, most int) fields.Fault {
	switch {
	case least < 0, most < least:
		return fields.Fault{E: api.ErrArg}
	case least <= count && count <= most:
		return fields.Fault{}
	case count > most:
		return fields.Fault{E: api.ErrLimit, Path: []int{most}}
	case count == 0:
		return fields.Fault{E: api.ErrEmpty}
	}
	return fields.Fault{E: api.ErrShort}
}

func TestList(t *testing.T) {
	bounds := append([]int{0, 1, 2, 3, 4, 5}, extremes...)
	for count := range 6 {
		e := seq(slices.Repeat([]api.Element{num(1)}, count)...)
		for _, least := range bounds {
			for _, most := range bounds {
				want := listFault(count, least, most)
				if f := fields.List(e, sequence, least, most); !same(f, want) {
					t.Errorf("%d elements, List(%d, %d): %v, want %v", count, least, most, f, want)
				}
				if want.E != api.ErrArg {
					want = fields.Fault{E: api.ErrTag}
				}
				if f := fields.List(e, set, least, most); !same(f, want) {
					t.Errorf("%d elements with another tag, List(%d, %d): %v, want %v", count, least, most, f, want)
				}
			}
		}
	}
}

func TestListOfManyElements(t *testing.T) {
	e := seq(slices.Repeat([]api.Element{num(1)}, 70000)...)
	for _, most := range []int{0, 256, 8192, 65535, 69999} {
		if f := fields.List(e, sequence, 0, most); !samples.IsFault(f, api.ErrLimit, most) {
			t.Errorf("70000 elements, at most %d: %v", most, f)
		}
	}
	for _, least := range []int{0, 1, 70000, 70001} {
		if f := fields.List(e, sequence, least, math.MaxInt); !same(f, listFault(70000, least, math.MaxInt)) {
			t.Errorf("70000 elements, at least %d: %v", least, f)
		}
	}
}

func TestListComparesWholeTags(t *testing.T) {
	for i, a := range strange() {
		for k, b := range strange() {
			want := fields.Fault{}
			if i != k {
				want.E = api.ErrTag
			}
			if f := fields.List(api.Element{Tag: a, Subs: []api.Element{num(1)}}, b, 1, 1); !same(f, want) {
				t.Errorf("an element with the tag %v instead of %v: %v", a, b, f)
			}
		}
	}
}

func TestListAcceptsInvalidElements(t *testing.T) {
	for i, x := range invalid() {
		for _, e := range []api.Element{x.e, seq(x.e), seq(x.e, x.e)} {
			if f := fields.List(e, e.Tag, 0, len(e.Subs)); !samples.IsFault(f, api.OK) {
				t.Errorf("invalid element %d: %v", i, f)
			}
		}
	}
}

// P12.3

// encode returns the encoding of a valid element as package asn1 has it.
func encode(t *testing.T, e api.Element) []byte {
	t.Helper()
	content := e.Bytes
	for _, sub := range e.Subs {
		content = append(content[:len(content):len(content)], encode(t, sub)...)
	}
	b, err := asn1.Marshal(asn1.RawValue{Class: int(e.Tag.Class), Tag: int(e.Tag.Number), IsCompound: e.Tag.Constructed, Bytes: content})
	if err != nil {
		t.Fatal(err)
	}
	return b
}

// orderFault is the fault of Ordered after the chapter: errors and encodings are those of the elements of a list, one after another.
func orderFault(errors []api.Errno, encodings [][]byte) fields.Fault {
	for i, err := range errors {
		switch {
		case err != api.OK:
			return fields.Fault{E: err, Path: []int{i}}
		case i > 0 && bytes.Compare(encodings[i-1], encodings[i]) > 0:
			return fields.Fault{E: api.ErrOrder, Path: []int{i}}
		case i > 0 && bytes.Equal(encodings[i-1], encodings[i]):
			return fields.Fault{E: api.ErrTwice, Path: []int{i}}
		}
	}
	return fields.Fault{}
}

func TestOrderedOfAllShortLists(t *testing.T) {
	type item struct {
		e    api.Element
		err  api.Errno
		code []byte
	}
	var items []item
	for _, e := range []api.Element{num(), num(1), num(1, 2), num(2), blob(1), seq(), seq(num(1)), seq(num(1), num(1)), blob(200)} {
		items = append(items, item{e, api.OK, encode(t, e)})
	}
	for _, x := range invalid()[:6] {
		items = append(items, item{x.e, x.err, nil})
	}
	samples.Lists(items, 4, func(l []item) {
		var e api.Element
		var errors []api.Errno
		var codes [][]byte
		for _, x := range l {
			e.Subs, errors, codes = append(e.Subs, x.e), append(errors, x.err), append(codes, x.code)
		}
		want := orderFault(errors, codes)
		e.Tag = []api.Tag{set, sequence, integer, {}}[len(l)%4] // it does not matter
		if f := fields.Ordered(e); !same(f, want) {
			t.Fatalf("Ordered(%v): %v, want %v", e, f, want)
		}
	})
}

func TestOrderedOfEveryTagAndInvalidElement(t *testing.T) {
	for _, tag := range strange() {
		e := api.Element{Tag: tag, Bytes: []byte{1}, Subs: []api.Element{num(1), num(2), num(2), num(1)}}
		if f := fields.Ordered(e); !samples.IsFault(f, api.ErrTwice, 2) {
			t.Errorf("the tag %v: %v", tag, f)
		}
		e.Subs = e.Subs[:2]
		if f := fields.Ordered(e); !samples.IsFault(f, api.OK) {
			t.Errorf("the tag %v: %v", tag, f)
		}
	}
	for i, x := range invalid() {
		if f := fields.Ordered(seq(x.e)); !samples.IsFault(f, x.err, 0) {
			t.Errorf("invalid element %d: %v, want %d", i, f, x.err)
		}
		if f := fields.Ordered(seq(num(1), num(2), x.e)); !samples.IsFault(f, x.err, 2) {
			t.Errorf("invalid element %d behind others: %v, want %d", i, f, x.err)
		}
		if f := fields.Ordered(seq(num(2), num(1), x.e)); !samples.IsFault(f, api.ErrOrder, 1) {
			t.Errorf("invalid element %d behind a wrong order: %v", i, f)
		}
	}
	// Each of them has 16 levels, which are too many only together with e.
	if f := fields.Ordered(seq(nest(num(1), 15), nest(num(2), 15))); !samples.IsFault(f, api.OK) {
		t.Errorf("elements with all levels: %v", f)
	}
}

// TestOrderedOfLargeElements: elements that are valid, but too large to be encoded, count as empty.
func TestOrderedOfLargeElements(t *testing.T) {
	large, larger, whole := blob(maxText-4), blob(maxText+9), blob(maxText-5)
	for i, x := range []struct {
		subs []api.Element
		want fields.Fault
	}{
		{[]api.Element{large}, fields.Fault{}},
		{[]api.Element{large, larger}, fields.Fault{E: api.ErrTwice, Path: []int{1}}},
		{[]api.Element{large, num()}, fields.Fault{}},
		{[]api.Element{num(), large}, fields.Fault{E: api.ErrOrder, Path: []int{1}}},
		{[]api.Element{large, whole}, fields.Fault{}},
		{[]api.Element{num(), whole, larger}, fields.Fault{E: api.ErrOrder, Path: []int{2}}},
		{[]api.Element{whole, num()}, fields.Fault{E: api.ErrOrder, Path: []int{1}}},
	} {
		if f := fields.Ordered(seq(x.subs...)); !same(f, x.want) {
			t.Errorf("large elements %d: %v, want %v", i, f, x.want)
		}
	}
}

func TestOrderedOfManyElements(t *testing.T) {
	e := api.Element{Tag: set}
	for i := range 20000 {
		e.Subs = append(e.Subs, num(byte(i>>16), byte(i>>8), byte(i)))
	}
	if f := fields.Ordered(e); !samples.IsFault(f, api.OK) {
		t.Errorf("20000 elements: %v", f)
	}
	e.Subs[19999] = e.Subs[0]
	if f := fields.Ordered(e); !samples.IsFault(f, api.ErrOrder, 19999) {
		t.Errorf("20000 elements, the first one again: %v", f)
	}
}

// P12.4

func TestExplicit(t *testing.T) {
	numbers := []uint32{0, 1, 3, 16, 30, 31, 127, 128, 1<<28 - 1, 1 << 28, math.MaxUint32}
	for _, number := range numbers {
		for _, other := range numbers {
			for class := range api.Class(6) {
				for _, constructed := range []bool{false, true} {
					for count := range 5 {
						e := api.Element{Tag: api.Tag{Class: class, Constructed: constructed, Number: other}, Subs: slices.Repeat([]api.Element{num(1)}, count)}
						want := fields.Fault{}
						if class != 2 || !constructed || number != other {
							want.E = api.ErrTag
						} else if count == 0 {
							want.E = api.ErrShort
						} else if count > 1 {
							want = fields.Fault{E: api.ErrTrail, Path: []int{1}}
						}
						if f := fields.Explicit(e, number); !same(f, want) {
							t.Errorf("Explicit(%v, %d) with %d elements: %v, want %v", e.Tag, number, count, f, want)
						}
					}
				}
			}
		}
	}
}

func TestExplicitAcceptsInvalidElements(t *testing.T) {
	for i, x := range invalid() {
		e := api.Element{Tag: api.Tag{Class: api.Context, Constructed: true, Number: 5}, Bytes: []byte{1}, Subs: []api.Element{x.e}}
		if f := fields.Explicit(e, 5); !samples.IsFault(f, api.OK) {
			t.Errorf("invalid element %d: %v", i, f)
		}
		e.Subs = append(e.Subs, x.e)
		if f := fields.Explicit(e, 5); !samples.IsFault(f, api.ErrTrail, 1) {
			t.Errorf("invalid element %d twice: %v", i, f)
		}
	}
}

// P12.5

func TestUnder(t *testing.T) {
	indices := append([]int{0, 1, 7}, extremes...)
	for err := api.Errno(-2); err < 40; err++ {
		samples.Lists(indices, 3, func(path []int) {
			for _, i := range indices {
				want := fields.Fault{E: err, Path: append([]int{i}, path...)}
				if err == api.OK {
					want = fields.Fault{}
				}
				if f := fields.Under(i, fields.Fault{E: err, Path: path}); !same(f, want) {
					t.Fatalf("Under(%d, %d at %v): %v", i, err, path, f)
				}
			}
		})
	}
	long := fields.Fault{E: api.ErrTag, Path: make([]int, 100000)}
	if f := fields.Under(-9, long); f.E != api.ErrTag || f.Path[0] != -9 || !slices.Equal(f.Path[1:], long.Path) {
		t.Errorf("Under of a long path: error %d, %d indices", f.E, len(f.Path))
	}
	if f := fields.Under(5, fields.Fault{}); !samples.IsFault(f, api.OK) {
		t.Errorf("Under of the zero Fault: %v", f)
	}
}

// P12.6

// trees lists elements to which and in which paths lead, valid and other ones.
func trees() []api.Element {
	list := []api.Element{
		num(1),
		seq(),
		seq(num(1)),
		seq(num(1), tagged(boolean), num(3)),
		seq(seq(num(1), num(2)), seq(), seq(seq(num(3)), num(4), seq(seq(), num(5)))),
		seq(blob(300), seq(tagged(boolean))),
		nest(num(6), 15),
	}
	for _, x := range invalid()[:7] {
		list = append(list, x.e, seq(num(1), x.e, num(2)), nest(seq(x.e, num(1)), 2))
	}
	return list
}

// find returns the element to which a path leads, and whether it leads to one.
func find(e api.Element, path []int) (api.Element, bool) {
	if len(path) == 0 {
		return e, true
	}
	for i, sub := range e.Subs {
		if i == path[0] {
			return find(sub, path[1:])
		}
	}
	return api.Element{}, false
}

func TestAt(t *testing.T) {
	indices := append([]int{0, 1, 2, 3}, extremes...)
	for k, e := range trees() {
		samples.Lists(indices, 4, func(path []int) {
			want, found := find(e, path)
			got, err := fields.At(e, path)
			if found && (err != api.OK || !samples.Equal(got, want)) {
				t.Fatalf("tree %d, At(%v): error %d", k, path, err)
			}
			if !found && (err != api.ErrNone || !samples.IsZero(got)) {
				t.Fatalf("tree %d, At(%v): error %d, want ErrNone", k, path, err)
			}
		})
	}
	deep := nest(num(6), 15)
	for n := range 18 {
		want := api.OK
		if n > 15 {
			want = api.ErrNone
		}
		if _, err := fields.At(deep, make([]int, n)); err != want {
			t.Errorf("At, %d indices: error %d", n, err)
		}
	}
}

func TestAtOfElementsThatContainThemselves(t *testing.T) {
	e := cyclic()
	for n := range 100 {
		path := slices.Repeat([]int{1}, n*n)
		if got, err := fields.At(e, append(path, 0)); err != api.OK || !samples.Equal(got, num(7)) {
			t.Fatalf("an element in itself, %d levels down: error %d", n*n, err)
		}
		for _, i := range []int{-1, 2} {
			if got, err := fields.At(e, append(path, i)); err != api.ErrNone || !samples.IsZero(got) {
				t.Fatalf("nothing, %d levels down: error %d", n*n, err)
			}
		}
	}
	// There is no copy of these; what is returned is not promised, but that the call ends is.
	both := seq(api.Element{}, api.Element{})
	both.Subs[0], both.Subs[1] = both, both
	for _, x := range []api.Element{e, both, seq(e), seq(num(1), both)} {
		if got, err := fields.At(x, nil); err != api.ErrDepth || !samples.IsZero(got) {
			t.Errorf("an element that contains itself: error %d", err)
		}
	}
	if got, err := fields.At(e, make([]int, 1<<20)); err != api.ErrNone || !samples.IsZero(got) {
		t.Errorf("a long path: error %d", err)
	}
}

func TestAtOfDeepElements(t *testing.T) {
	// Without R8, its bounds would be no reason for an error.
	for _, x := range []struct {
		levels int
		want   api.Errno
	}{{17, api.OK}, {1000, api.OK}, {maxLevels - 1, api.OK}, {maxLevels, api.OK}, {maxLevels + 1, api.ErrDepth}} {
		e := nest(num(1), x.levels-1)
		got, err := fields.At(e, nil)
		if err != x.want || err == api.OK && !samples.Equal(got, e) || err != api.OK && !samples.IsZero(got) {
			t.Errorf("%d levels: error %d", x.levels, err)
		}
		if got, err := fields.At(e, make([]int, x.levels-1)); err != api.OK || !samples.Equal(got, num(1)) {
			t.Errorf("the innermost of %d levels: error %d", x.levels, err)
		}
	}
}

func TestAtOfLargeElements(t *testing.T) {
	many := seq(slices.Repeat([]api.Element{num(1)}, 100000)...)
	if got, err := fields.At(many, nil); err != api.OK || !samples.Equal(got, many) {
		t.Errorf("100001 elements: error %d", err)
	}
	if got, err := fields.At(many, []int{99999}); err != api.OK || !samples.Equal(got, num(1)) {
		t.Errorf("the last one of 100001 elements: error %d", err)
	}
	large := seq(blob(maxText), blob(3*maxText))
	if got, err := fields.At(large, nil); err != api.OK || !samples.Equal(got, large) {
		t.Errorf("a large element: error %d", err)
	}
	// The same MiB 2048 times: a copy would have 2 GiB, more than R8 lets a result have.
	heavy := seq(slices.Repeat([]api.Element{blob(maxText)}, 2048)...)
	if got, err := fields.At(heavy, nil); err != api.ErrLimit || !samples.IsZero(got) {
		t.Errorf("2 GiB: error %d", err)
	}
	// Without its elements, this one has less than 2 GiB.
	light := seq(slices.Repeat([]api.Element{seq(slices.Repeat([]api.Element{num()}, 1024)...)}, 1024)...)
	if got, err := fields.At(seq(seq(heavy.Subs[1:]...), light), nil); err != api.ErrLimit || !samples.IsZero(got) {
		t.Errorf("2047 MiB and 2^20 elements: error %d", err)
	}
	if got, err := fields.At(seq(heavy, num(1)), []int{1}); err != api.OK || !samples.Equal(got, num(1)) {
		t.Errorf("beside 2 GiB: error %d", err)
	}
}

// P12.7

// place returns the offset of the element to which a path leads in an encoding, read with package asn1.
func place(t *testing.T, code []byte, path []int) (offset int, found bool) {
	t.Helper()
	var raw asn1.RawValue
	if _, err := asn1.Unmarshal(code, &raw); err != nil {
		t.Fatal(err)
	}
	if len(path) == 0 {
		return 0, true
	}
	at := len(raw.FullBytes) - len(raw.Bytes)
	left := raw.Bytes
	for i := 0; raw.IsCompound && len(left) > 0; i++ {
		var sub asn1.RawValue
		rest, err := asn1.Unmarshal(left, &sub)
		if err != nil {
			t.Fatal(err)
		}
		if i == path[0] {
			offset, found := place(t, left, path[1:])
			return at + offset, found
		}
		at += len(sub.FullBytes)
		left = rest
	}
	return 0, false
}

// checkOffset compares Offset, At and Report with the encoding. (P12.7, P12.8, P12.9)
func checkOffset(t *testing.T, e api.Element, code []byte, path []int) {
	t.Helper()
	want, found := place(t, code, path)
	wantErr := api.OK
	if !found {
		want, wantErr = 0, api.ErrNone
	}
	offset, err := fields.Offset(e, path)
	if offset != want || err != wantErr {
		t.Fatalf("Offset(%v): %d, error %d, want %d, error %d", path, offset, err, want, wantErr)
	}
	if offset, err := fields.Report(e, fields.Fault{Path: path, E: api.ErrSum}); offset != want || err != api.ErrSum {
		t.Fatalf("Report(%v): %d, error %d, want %d", path, offset, err, want)
	}
	sub, err := fields.At(e, path)
	if err != wantErr {
		t.Fatalf("At(%v): error %d, want %d", path, err, wantErr)
	}
	if found && !bytes.HasPrefix(code[offset:], encode(t, sub)) {
		t.Fatalf("at the offset %d of %v stands another element", offset, path)
	}
}

// paths calls use with the path of each element of e.
func paths(e api.Element, path []int, use func(path []int)) {
	use(path)
	for i, sub := range e.Subs {
		paths(sub, append(path[:len(path):len(path)], i), use)
	}
}

// checkOffsets checks the offsets of all elements of e, and of what is not there.
func checkOffsets(t *testing.T, e api.Element) {
	t.Helper()
	code := encode(t, e)
	paths(e, nil, func(path []int) {
		checkOffset(t, e, code, path)
		sub, _ := find(e, path)
		for _, i := range append([]int{len(sub.Subs), len(sub.Subs) + 1}, extremes...) {
			checkOffset(t, e, code, append(slices.Clone(path), i))
			checkOffset(t, e, code, append(slices.Clone(path), i, 0))
		}
	})
}

func TestOffsets(t *testing.T) {
	for _, e := range trees() {
		if elements.Check(e) == api.OK {
			checkOffsets(t, e)
		}
	}
}

func TestOffsetsBehindLengthsOfAllSizes(t *testing.T) {
	for _, n := range []int{0, 1, 120, 121, 122, 123, 124, 125, 126, 127, 128, 129, 240, 250, 251, 252, 253, 254, 255, 256, 257, 65520, 65530, 65535, 65536, 65537, maxText - 30} {
		checkOffsets(t, seq(blob(n), num(1), seq(num(2))))
		checkOffsets(t, seq(num(1), seq(num(2), blob(n), num(3)), num(4)))
	}
}

func TestOffsetsBehindTagsOfAllSizes(t *testing.T) {
	for _, number := range []uint32{0, 1, 30, 31, 127, 128, 1<<14 - 1, 1 << 14, 1<<21 - 1, 1 << 21, 1<<28 - 1} {
		for class := api.Application; class <= api.Private; class++ {
			inner := api.Element{Tag: api.Tag{Class: class, Number: number}, Bytes: []byte{1}}
			outer := api.Element{Tag: api.Tag{Class: class, Constructed: true, Number: number}, Subs: []api.Element{inner, num(1), inner}}
			checkOffsets(t, seq(inner, outer, num(2)))
			checkOffsets(t, outer)
		}
	}
}

// randomElement returns a valid element of up to so many levels.
func randomElement(r *rand.Rand, levels int) api.Element {
	tag := api.Tag{Class: api.Class(r.Intn(4)), Constructed: levels > 1 && r.Intn(3) > 0, Number: 1 + uint32(r.Intn(1<<uint(1+r.Intn(27))))}
	if tag.Class == api.Universal {
		tag.Number = 1 + tag.Number%15
		tag.Constructed = false
	}
	e := api.Element{Tag: tag}
	if !tag.Constructed {
		e.Bytes = make([]byte, r.Intn(1<<uint(r.Intn(10))))
		return e
	}
	for range r.Intn(5) {
		e.Subs = append(e.Subs, randomElement(r, levels-1))
	}
	return e
}

func TestOffsetsOfRandomElements(t *testing.T) {
	r := rand.New(rand.NewSource(12))
	for range 300 {
		checkOffsets(t, seq(randomElement(r, 5), randomElement(r, 5)))
	}
}

func TestOffsetsOfManyElements(t *testing.T) {
	e := seq()
	for i := range 8190 {
		e.Subs = append(e.Subs, num(make([]byte, i%3)...))
	}
	e.Subs = append(e.Subs, num(1))
	code := encode(t, e)
	for _, i := range []int{0, 1, 2, 3, 4000, 8189, 8190, 8191} {
		checkOffset(t, e, code, []int{i})
	}
}

func TestOffsetErrors(t *testing.T) {
	for i, x := range invalid() {
		// The error comes first, and wherever the path leads.
		for _, path := range [][]int{nil, {0}, {0, 0}, {1}, {1, 0}, {-1}, {5}} {
			for _, e := range []api.Element{x.e, seq(num(1), x.e), seq(seq(num(1)), num(2), x.e)} {
				if offset, err := fields.Offset(e, path); offset != 0 || err != x.err {
					t.Errorf("invalid element %d, Offset(%v): %d, error %d, want %d", i, path, offset, err, x.err)
				}
			}
		}
	}
	most := seq(num(1), blob(maxText-3-10))
	for _, path := range [][]int{nil, {0}, {1}, {2}, {0, 0}} {
		checkOffset(t, most, encode(t, most), path)
		for _, e := range []api.Element{seq(num(1), blob(maxText-3-9)), blob(maxText), seq(seq(num(1)), blob(maxText))} {
			if offset, err := fields.Offset(e, path); offset != 0 || err != api.ErrLimit {
				t.Errorf("a large element, Offset(%v): %d, error %d", path, offset, err)
			}
		}
	}
}

// P12.8

func TestReport(t *testing.T) {
	e := seq(num(5), seq(tagged(boolean)))
	for err := api.Errno(-2); err < 40; err++ {
		for _, x := range []struct {
			path []int
			want int
		}{{nil, 0}, {[]int{0}, 2}, {[]int{1}, 5}, {[]int{1, 0}, 7}, {[]int{2}, 0}, {[]int{1, 1}, 0}, {[]int{-1}, 0}, {[]int{0, 0}, 0}} {
			want := x.want
			if err == api.OK {
				want = 0
			}
			if offset, got := fields.Report(e, fields.Fault{Path: x.path, E: err}); offset != want || got != err {
				t.Errorf("Report(%d at %v): %d, error %d, want %d", err, x.path, offset, got, want)
			}
		}
	}
	for i, x := range invalid() {
		for _, path := range [][]int{nil, {0}, {1}, {-1}} {
			for _, err := range []api.Errno{api.OK, api.ErrValue, api.ErrNone, x.err} {
				if offset, got := fields.Report(seq(num(1), x.e), fields.Fault{Path: path, E: err}); offset != 0 || got != err {
					t.Errorf("invalid element %d, Report(%d at %v): %d, error %d", i, err, path, offset, got)
				}
			}
		}
	}
	if offset, err := fields.Report(seq(num(1), blob(maxText)), fields.Fault{Path: []int{1}, E: api.ErrTag}); offset != 0 || err != api.ErrTag {
		t.Errorf("Report of a large element: %d, error %d", offset, err)
	}
}

// P12.9

func TestUnderLeadsOn(t *testing.T) {
	e := seq(num(1), seq(num(2), seq(num(3), num(4)), num(5)))
	inner := e.Subs[1].Subs[1]
	for i := range inner.Subs {
		f := fields.Under(1, fields.Under(1, fields.Fault{Path: []int{i}, E: api.ErrTag}))
		if !samples.IsFault(f, api.ErrTag, 1, 1, i) {
			t.Fatalf("Under twice: %v", f)
		}
		if got, err := fields.At(e, f.Path); err != api.OK || !samples.Equal(got, inner.Subs[i]) {
			t.Errorf("Under leads to %v, error %d", got, err)
		}
	}
	f := fields.Under(2, fields.Under(3, fields.Fault{Path: []int{4}, E: api.ErrTag})) // of 3, and then of 2
	if !samples.IsFault(f, api.ErrTag, 2, 3, 4) {
		t.Errorf("Under of 3 and then of 2: %v", f)
	}
}

// The examples of the chapter.

func TestExamples(t *testing.T) {
	e, _, _ := elements.Get([]byte{0x30, 6, 2, 1, 5, 1, 1, 0xff})
	i, b := fields.Field{Tag: integer}, fields.Field{Tag: boolean}
	maybe, last := fields.Field{Tag: integer, Optional: true}, fields.Field{Any: true, Optional: true}
	for k, x := range []struct {
		l    []fields.Field
		want []int
		f    fields.Fault
	}{
		{[]fields.Field{i, b}, []int{0, 1}, fields.Fault{}},
		{[]fields.Field{i, maybe, b, last}, []int{0, -1, 1, -1}, fields.Fault{}},
		{[]fields.Field{b, i}, nil, fields.Fault{Path: []int{0}, E: api.ErrTag}},
		{[]fields.Field{i}, nil, fields.Fault{Path: []int{1}, E: api.ErrTrail}},
		{[]fields.Field{i, b, i}, nil, fields.Fault{E: api.ErrShort}},
	} {
		if got, f := fields.Sequence(e, sequence, x.l); !slices.Equal(got, x.want) || !same(f, x.f) {
			t.Errorf("Sequence, example %d: %v, %v", k, got, f)
		}
	}
	if got, f := fields.Sequence(e, integer, nil); len(got) > 0 || !samples.IsFault(f, api.ErrTag) {
		t.Errorf("Sequence with another tag: %v, %v", got, f)
	}
	for k, x := range []struct{ f, want fields.Fault }{
		{fields.List(e, sequence, 1, 1), fields.Fault{Path: []int{1}, E: api.ErrLimit}},
		{fields.List(e, sequence, 3, 4), fields.Fault{E: api.ErrShort}},
		{fields.Ordered(e), fields.Fault{Path: []int{1}, E: api.ErrOrder}},
		{fields.Under(3, fields.Fault{Path: []int{1}, E: api.ErrTag}), fields.Fault{Path: []int{3, 1}, E: api.ErrTag}},
	} {
		if !same(x.f, x.want) {
			t.Errorf("fault, example %d: %v, want %v", k, x.f, x.want)
		}
	}
	for k, x := range []struct {
		path []int
		want int
		err  api.Errno
	}{{[]int{1}, 5, api.OK}, {[]int{2}, 0, api.ErrNone}, {nil, 0, api.OK}} {
		if at, err := fields.Offset(e, x.path); at != x.want || err != x.err {
			t.Errorf("Offset, example %d: %d, error %d", k, at, err)
		}
	}
	if at, err := fields.Report(e, fields.Fault{Path: []int{1}, E: api.ErrTrail}); at != 5 || err != api.ErrTrail {
		t.Errorf("Report: %d, error %d", at, err)
	}
}

// R4

func TestElementsAreNewMemory(t *testing.T) {
	build := func() api.Element { return seq(num(1, 2, 3), seq(num(4), seq(num(5), blob(33))), num()) }
	paths(build(), nil, func(path []int) {
		e := build()
		want, _ := find(build(), path)
		first, _ := fields.At(e, path)
		second, _ := fields.At(e, path)
		if samples.HasSpare(first) {
			t.Errorf("At(%v) has spare capacity", path)
		}
		samples.Spoil(first)
		if !samples.Equal(second, want) || !samples.Equal(e, build()) {
			t.Errorf("At(%v) shares memory with another result or its argument", path)
		}
		samples.Spoil(e)
		if !samples.Equal(second, want) {
			t.Errorf("At(%v) keeps its argument", path)
		}
	})
	// Parts of a result share no memory, even if parts of the argument do.
	shared := seq(num(1), num(2))
	got, _ := fields.At(seq(shared, shared, num(3)), nil)
	samples.Spoil(got.Subs[0])
	if !samples.Equal(got.Subs[1], seq(num(1), num(2))) {
		t.Error("parts of a result share memory")
	}
}

func TestIndicesAndPathsAreNewMemory(t *testing.T) {
	e := seq(num(1), num(2))
	l := []fields.Field{{Tag: integer}, {Tag: boolean, Optional: true}, {Any: true}}
	first, _ := fields.Sequence(e, sequence, l)
	second, _ := fields.Sequence(e, sequence, l)
	first[0], first[1], first[2] = 9, 9, 9
	if cap(first) > len(first) || !slices.Equal(second, []int{0, -1, 1}) {
		t.Errorf("Sequence: capacity %d, %v", cap(first), second)
	}
	if !samples.Equal(e, seq(num(1), num(2))) || !slices.Equal(l, []fields.Field{{Tag: integer}, {Tag: boolean, Optional: true}, {Any: true}}) {
		t.Error("Sequence changes its arguments")
	}
	makers := []func() fields.Fault{
		func() fields.Fault { _, f := fields.Sequence(e, sequence, l[:1]); return f },
		func() fields.Fault { _, f := fields.Sequence(e, sequence, []fields.Field{{}}); return f },
		func() fields.Fault { return fields.List(e, sequence, 0, 1) },
		func() fields.Fault { return fields.Ordered(seq(num(2), num(1))) },
		func() fields.Fault { return fields.Ordered(seq(num(1), num(1))) },
		func() fields.Fault { return fields.Ordered(seq(num(1), api.Element{})) },
		func() fields.Fault {
			return fields.Explicit(api.Element{Tag: api.Tag{Class: 2, Constructed: true}, Subs: e.Subs}, 0)
		},
		func() fields.Fault { return fields.Under(4, fields.Fault{E: api.ErrTag, Path: []int{1, 2}}) },
	}
	for i, make := range makers {
		if flaw := samples.PathFlaw(make); flaw != "" {
			t.Errorf("path %d: %s", i, flaw)
		}
	}
	path := append(make([]int, 0, 9), 1, 2) // with spare capacity, which must not be used
	under := fields.Under(4, fields.Fault{E: api.ErrTag, Path: path})
	path[0], path[1] = 7, 7
	if !slices.Equal(under.Path, []int{4, 1, 2}) || path[:3][2] != 0 {
		t.Errorf("Under keeps or changes its argument: %v, %v", under.Path, path[:3])
	}
	under.Path[1] = 9
	if path[0] != 7 {
		t.Error("the result of Under shares memory with its argument")
	}
}

func TestPathsAreNotChanged(t *testing.T) {
	e := seq(num(1), seq(num(2), num(3)))
	path := []int{1, 1}
	fields.At(e, path)
	fields.Offset(e, path)
	fields.Report(e, fields.Fault{Path: path, E: api.ErrTag})
	fields.Ordered(e)
	if !slices.Equal(path, []int{1, 1}) || !samples.Equal(e, seq(num(1), seq(num(2), num(3)))) {
		t.Error("an argument is changed")
	}
}
