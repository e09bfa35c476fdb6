package extensions_test

import (
	"bytes"
	"crypto/ed25519"
	"crypto/x509"
	"crypto/x509/pkix"
	"encoding/asn1"
	"fmt"
	"math/big"
	"math/rand"
	"slices"
	"testing"
	"time"

	"vidimus/api"
	"vidimus/elements"
	"vidimus/extensions"
	"vidimus/fields"
	"vidimus/oids"
	"vidimus/samples"
)

// The limits of the document.
const (
	maxBytes      = 65536
	maxExtensions = 32
	maxText       = 1 << 20
)

// The tags of the chapter.
var (
	sequence  = api.Tag{Constructed: true, Number: 16}
	set       = api.Tag{Constructed: true, Number: 17}
	idTag     = api.Tag{Number: 6}
	boolTag   = api.Tag{Number: 1}
	octetsTag = api.Tag{Number: 4}
)

// kinds are the kinds of the chapter.
var kinds = []struct {
	kind   extensions.Kind
	number int
	dotted string
}{{extensions.Policies, 1, "2.5.29.32"}, {extensions.Mappings, 2, "2.5.29.33"}, {extensions.Constraints, 3, "2.5.29.36"}, {extensions.InhibitAny, 4, "2.5.29.54"}}

func null() api.Element { return samples.Leaf(5) }

// id returns the OID with a dotted form.
func id(dotted string) api.OID {
	o, err := oids.Parse(dotted)
	if err != api.OK {
		panic(dotted)
	}
	return o
}

// extension returns an extension with an identifier in dotted form.
func extension(dotted string, critical bool, value ...byte) extensions.Extension {
	return extensions.Extension{ID: id(dotted), Critical: critical, Value: value}
}

// equalOne compares extensions as the document does.
func equalOne(a, b extensions.Extension) bool {
	return a.ID == b.ID && a.Critical == b.Critical && bytes.Equal(a.Value, b.Value)
}

// equal compares lists as the document does.
func equal(a, b []extensions.Extension) bool { return slices.EqualFunc(a, b, equalOne) }

// encode returns the encoding of an element; nil if there is none, or it is too large.
func encode(e api.Element) []byte {
	b, _ := elements.Put(e)
	return b
}

// brief shows what may be long.
func brief(x any) string {
	s := fmt.Sprintf("%v", x)
	return s[:min(len(s), 300)]
}

// P15.1

// wantKind is KindOf after the chapter, as a number.
func wantKind(o api.OID) int {
	for _, x := range kinds {
		if oids.Text(o) == x.dotted {
			return x.number
		}
	}
	return 0
}

// similar lists OIDs, valid and other ones, that differ from that of a kind in one place.
func similar(o api.OID) []api.OID {
	var list []api.OID
	for i := range api.MaxArcs {
		for _, delta := range []uint32{1, 2, 1 << 8, 1 << 16, 1 << 31, ^uint32(0)} {
			x := o
			x.Arcs[i] += delta
			list = append(list, x)
		}
		x := o
		x.Arcs[i] = 0
		if x != o {
			list = append(list, x)
		}
	}
	for n := range 256 {
		x := o
		x.N = uint8(n)
		if x != o {
			list = append(list, x)
		}
	}
	return list
}

// someIDs lists OIDs, valid and other ones: those of the kinds, similar ones, and others.
func someIDs() []api.OID {
	list := slices.Concat(samples.OIDs(), samples.NoOIDs())
	for last := range uint32(128) {
		list = append(list, oids.Of(2, 5, 29, last), oids.Of(2, 5, 29, last, 0))
	}
	for _, x := range kinds {
		list = append(list, similar(id(x.dotted))...)
	}
	return list
}

func TestKinds(t *testing.T) {
	if extensions.None != 0 {
		t.Errorf("None is %d", extensions.None)
	}
	for _, x := range kinds {
		if int(x.kind) != x.number {
			t.Errorf("the kind %d has the number %d", x.number, x.kind)
		}
	}
}

func TestIDOfEveryKind(t *testing.T) {
	want := map[int]api.OID{}
	for _, x := range kinds {
		want[x.number] = id(x.dotted)
	}
	for k := range 256 {
		o := extensions.ID(extensions.Kind(k))
		if o != want[k] {
			t.Errorf("ID(%d): %v", k, o)
		}
		if back := extensions.KindOf(o); o != (api.OID{}) && int(back) != k || o == (api.OID{}) && back != 0 {
			t.Errorf("KindOf(ID(%d)): %d", k, back)
		}
	}
}

func TestKindOf(t *testing.T) {
	found := map[int]int{}
	for _, o := range someIDs() {
		want := wantKind(o)
		if k := extensions.KindOf(o); int(k) != want {
			t.Errorf("KindOf(%v): %d, want %d", o, k, want)
		}
		found[want]++
	}
	for k := range 5 {
		if found[k] == 0 {
			t.Errorf("no OID has the kind %d", k)
		}
	}
	for _, x := range kinds {
		for _, o := range similar(id(x.dotted)) {
			if k := extensions.KindOf(o); k == x.kind {
				t.Errorf("KindOf(%v): %d", o, k)
			}
		}
	}
}

// P15.2

// mustBeCritical reports whether an extension has to be critical, after the chapter.
func mustBeCritical(o api.OID) bool { return wantKind(o) == 3 || wantKind(o) == 4 }

// checkRules are the rules of an extension in their order.
func checkRules(x extensions.Extension) []samples.Rule {
	err := oids.Check(x.ID)
	return []samples.Rule{
		samples.If(err != api.OK, err),
		samples.If(len(x.Value) > maxBytes, api.ErrLimit),
		samples.If(mustBeCritical(x.ID) && !x.Critical, api.ErrCritical),
	}
}

// wantElement returns the element of a valid extension after the chapter.
func wantElement(x extensions.Extension) api.Element {
	octets, _ := oids.Put(x.ID)
	e := samples.Seq(samples.Leaf(6, octets...))
	if x.Critical {
		e.Subs = append(e.Subs, samples.Leaf(1, 0xff))
	}
	e.Subs = append(e.Subs, samples.Leaf(4, x.Value...))
	return e
}

// checkElement compares Check and Element with the chapter, and Of with the extension. (P15.2, P15.8)
func checkElement(t *testing.T, x extensions.Extension) {
	t.Helper()
	want := samples.FirstFault(checkRules(x)...).E
	if err := extensions.Check(x); err != want {
		t.Fatalf("Check(%s): error %d, want %d", brief(x), err, want)
	}
	e, err := extensions.Element(x)
	if err != want || want != api.OK && !samples.IsZero(e) {
		t.Fatalf("Element(%s): %s, error %d, want %d", brief(x), brief(e), err, want)
	}
	if want != api.OK {
		return
	}
	if !samples.Equal(e, wantElement(x)) || elements.Check(e) != api.OK {
		t.Fatalf("Element(%s): %s", brief(x), brief(e))
	}
	if back, f := extensions.Of(e); !samples.IsFault(f, api.OK) || !equalOne(back, x) {
		t.Fatalf("Of the element of %s: %s, %v", brief(x), brief(back), f)
	}
}

// counted returns so many bytes, which are not equal.
func counted(size int) []byte {
	b := make([]byte, size)
	for i := range b {
		b[i] = byte(i + i>>8)
	}
	return b
}

// values lists values of valid extensions, each one new.
func values() [][]byte {
	list := [][]byte{nil, {}, {0}, {0xff}, {5, 0}, {0x30, 0}, {2, 1, 0}, {0x30, 0x80}, {0xde, 0xad}}
	for _, size := range []int{100, 127, 128, 255, 256, 1000, maxBytes - 1, maxBytes} {
		list = append(list, counted(size))
	}
	return list
}

// longValues lists values that no valid extension has.
func longValues() [][]byte {
	return [][]byte{counted(maxBytes + 1), counted(maxBytes + 2), counted(2 * maxBytes), counted(maxText), counted(maxText + 1)}
}

func TestElementOfEveryExtension(t *testing.T) {
	for _, o := range someIDs() {
		for _, critical := range []bool{false, true} {
			for _, value := range [][]byte{nil, {5, 0}, counted(maxBytes + 1)} {
				checkElement(t, extensions.Extension{ID: o, Critical: critical, Value: value})
			}
		}
	}
	list := samples.OIDs()
	for _, x := range kinds {
		list = append(list, id(x.dotted))
	}
	for _, o := range append(list, samples.NoOIDs()...) {
		for _, critical := range []bool{false, true} {
			for _, value := range append(values(), longValues()...) {
				checkElement(t, extensions.Extension{ID: o, Critical: critical, Value: value})
			}
		}
	}
}

func TestCheckOrderOfErrors(t *testing.T) {
	long := counted(maxBytes + 1)
	constraints := id("2.5.29.36")
	inhibitAny := id("2.5.29.54")
	invalid := constraints
	invalid.Arcs[4] = 1
	for i, x := range []struct {
		x   extensions.Extension
		err api.Errno
	}{
		{extensions.Extension{}, api.ErrArg},
		{extensions.Extension{Value: long}, api.ErrArg},
		{extensions.Extension{ID: invalid, Value: long}, api.ErrArg},
		{extensions.Extension{ID: invalid}, api.ErrArg},
		{extensions.Extension{ID: constraints, Value: long}, api.ErrLimit},
		{extensions.Extension{ID: inhibitAny, Value: long}, api.ErrLimit},
		{extensions.Extension{ID: constraints, Value: long, Critical: true}, api.ErrLimit},
		{extensions.Extension{ID: constraints, Value: long[1:]}, api.ErrCritical},
		{extensions.Extension{ID: constraints}, api.ErrCritical},
		{extensions.Extension{ID: inhibitAny}, api.ErrCritical},
		{extensions.Extension{ID: constraints, Critical: true}, api.OK},
		{extensions.Extension{ID: inhibitAny, Critical: true, Value: long[1:]}, api.OK},
		{extensions.Extension{ID: id("2.5.29.32")}, api.OK},
		{extensions.Extension{ID: id("2.5.29.33")}, api.OK},
		{extensions.Extension{ID: id("2.5.29.32"), Critical: true}, api.OK},
		{extensions.Extension{ID: id("2.5.29.33"), Critical: true}, api.OK},
		{extensions.Extension{ID: id("2.5.29.37")}, api.OK},
		{extensions.Extension{ID: id("2.5.29.36.0")}, api.OK},
		{extensions.Extension{ID: id("2.5.29")}, api.OK},
	} {
		if err := extensions.Check(x.x); err != x.err {
			t.Errorf("%d: error %d, want %d", i, err, x.err)
		}
		checkElement(t, x.x)
	}
}

// objectID returns a valid OID as package asn1 has it.
func objectID(o api.OID) asn1.ObjectIdentifier {
	var list asn1.ObjectIdentifier
	for _, arc := range o.Arcs[:o.N] {
		list = append(list, int(arc))
	}
	return list
}

// foreign returns a valid extension as package pkix has it.
func foreign(x extensions.Extension) pkix.Extension {
	return pkix.Extension{Id: objectID(x.ID), Critical: x.Critical, Value: x.Value}
}

func TestElementIsThatOfPackagePkix(t *testing.T) {
	compared := 0
	for _, o := range someIDs() {
		for _, critical := range []bool{false, true} {
			for _, value := range [][]byte{nil, {5, 0}, counted(1000)} {
				x := extensions.Extension{ID: o, Critical: critical, Value: value}
				e, err := extensions.Element(x)
				if err != api.OK {
					continue
				}
				compared++
				want, failed := asn1.Marshal(foreign(x))
				if failed != nil || !bytes.Equal(encode(e), want) {
					t.Errorf("%s: %x, want %x, %v", brief(x), encode(e), want, failed)
				}
			}
		}
	}
	if compared < 1000 {
		t.Errorf("only %d elements are compared", compared)
	}
}

// P15.3

// wantOf is Of after the chapter.
func wantOf(e api.Element) (extensions.Extension, fields.Fault) {
	check := elements.Check(e)
	first, second := samples.Sub(e, 0), samples.Sub(e, 1)
	critical := second.Tag == boolTag
	last := 1
	if critical {
		last = 2
	}
	value := samples.Sub(e, last)
	o, err := oids.Get(first.Bytes)
	count := len(e.Subs)
	f := samples.FirstFault(
		samples.If(check != api.OK, check),
		samples.If(e.Tag != sequence, api.ErrTag),
		samples.If(count == 0, api.ErrShort),
		samples.If(first.Tag != idTag, api.ErrTag, 0),
		samples.If(count == last, api.ErrShort),
		samples.If(value.Tag != octetsTag, api.ErrTag, last),
		samples.If(count > last+1, api.ErrTrail, last+1),
		samples.If(err != api.OK, err, 0),
		samples.If(critical && !bytes.Equal(second.Bytes, []byte{0xff}), api.ErrValue, 1),
		samples.If(len(value.Bytes) > maxBytes, api.ErrLimit, last),
		samples.If(mustBeCritical(o) && !critical, api.ErrCritical),
	)
	if f.E != api.OK {
		return extensions.Extension{}, f
	}
	return extensions.Extension{ID: o, Critical: critical, Value: value.Bytes}, f
}

// tally counts what was read, and what was not.
type tally struct{ right, wrong int }

// checkOf compares Of with the chapter. (P15.3, P15.8)
func (n *tally) checkOf(t *testing.T, e api.Element) {
	t.Helper()
	want, fault := wantOf(e)
	x, f := extensions.Of(e)
	if !samples.IsFault(f, fault.E, fault.Path...) || !equalOne(x, want) {
		t.Fatalf("Of(%s): %s, %v, want %s, %v", brief(e), brief(x), f, brief(want), fault)
	}
	if f.E != api.OK {
		n.wrong++
		return
	}
	n.right++
	if back, err := extensions.Element(x); err != api.OK || !samples.Equal(back, e) {
		t.Fatalf("Element of Of(%s): %s, error %d", brief(e), brief(back), err)
	}
}

// enough checks that there were at least so many.
func (n *tally) enough(t *testing.T, right, wrong int) {
	t.Helper()
	if n.right < right || n.wrong < wrong {
		t.Errorf("only %d and %d were read", n.right, n.wrong)
	}
}

// idElement returns the element of an identifier in dotted form.
func idElement(dotted string) api.Element {
	octets, _ := oids.Put(id(dotted))
	return samples.Leaf(6, octets...)
}

// commonParts lists right and wrong parts of extensions.
func commonParts() []api.Element {
	return []api.Element{
		idElement("1.2.3"),
		idElement("2.5.29.32"),
		idElement("2.5.29.36"),
		idElement("2.5.29.54"),
		samples.Leaf(6, 0x80),
		samples.Leaf(1, 0xff),
		samples.Leaf(1, 0),
		samples.Leaf(4),
		samples.Leaf(4, counted(maxBytes+1)...),
		null(),
		{},
	}
}

// parts lists more of them.
func parts() []api.Element {
	return append(commonParts(),
		idElement("2.5.29.33"),
		samples.Leaf(6),
		samples.Leaf(6, 0x55, 0x9d),
		samples.Leaf(6, make([]byte, 16)...),
		samples.Leaf(6, 0x90, 0x80, 0x80, 0x80, 0),
		api.Element{Tag: api.Tag{Constructed: true, Number: 6}, Subs: []api.Element{null()}},
		api.Element{Tag: api.Tag{Class: api.Context, Number: 6}, Bytes: []byte{0x2a, 3}},
		api.Element{Tag: idTag, Bytes: []byte{0x2a, 3}, Subs: []api.Element{null()}},
		samples.Leaf(1),
		samples.Leaf(1, 1),
		samples.Leaf(1, 0xff, 0xff),
		samples.Leaf(1, 0, 0),
		api.Element{Tag: api.Tag{Constructed: true, Number: 1}, Subs: []api.Element{null()}},
		api.Element{Tag: api.Tag{Class: api.Context, Number: 1}, Bytes: []byte{0xff}},
		api.Element{Tag: boolTag, Bytes: []byte{0xff}, Subs: []api.Element{null()}},
		samples.Leaf(4, 5, 0),
		api.Element{Tag: octetsTag, Bytes: []byte{5}, Subs: []api.Element{}},
		samples.Leaf(3, 0),
		api.Element{Tag: api.Tag{Constructed: true, Number: 4}, Subs: []api.Element{samples.Leaf(4)}},
		api.Element{Tag: api.Tag{Class: api.Context, Number: 4}, Bytes: []byte{5}},
		api.Element{Tag: octetsTag, Subs: []api.Element{null()}},
		samples.Seq(idElement("1.2.3"), samples.Leaf(4)),
		api.Element{Tag: sequence, Bytes: []byte{1}},
		samples.Nest(null(), 14),
		samples.Nest(null(), 15),
	)
}

func TestOfAllShortLists(t *testing.T) {
	var n tally
	samples.Lists(parts(), 3, func(l []api.Element) { n.checkOf(t, samples.Seq(l...)) })
	n.enough(t, 15, 30000)
	samples.Lists(commonParts(), 4, func(l []api.Element) { n.checkOf(t, samples.Seq(l...)) })
	for _, tag := range samples.Tags() {
		samples.Lists(commonParts(), 3, func(l []api.Element) { n.checkOf(t, api.Element{Tag: tag, Subs: l}) })
		n.checkOf(t, api.Element{Tag: tag, Bytes: []byte{6, 1, 0x2a, 4, 0}})
	}
}

func TestOfAllTagsOfParts(t *testing.T) {
	var n tally
	whole := samples.Seq(idElement("1.2.3"), samples.Leaf(1, 0xff), samples.Leaf(4, 0xff))
	for i, part := range whole.Subs {
		for class := range 5 {
			for number := range uint32(40) {
				e := samples.Clone(whole)
				e.Subs[i].Tag = api.Tag{Class: api.Class(class), Number: number}
				n.checkOf(t, e)
				e.Subs[i] = api.Element{Tag: api.Tag{Class: api.Class(class), Constructed: true, Number: number}, Subs: []api.Element{part}}
				n.checkOf(t, e)
			}
		}
	}
	n.enough(t, 3, 1000)
}

func TestOfAllBooleans(t *testing.T) {
	var n tally
	samples.Lists(samples.Octets(), 2, func(l []byte) {
		n.checkOf(t, samples.Seq(idElement("2.5.29.36"), samples.Leaf(1, l...), samples.Leaf(4, 7)))
	})
	if n.right != 1 {
		t.Errorf("%d booleans are true", n.right)
	}
}

func TestOfAllShortIdentifiers(t *testing.T) {
	var n tally
	samples.Lists(samples.Octets(), 2, func(l []byte) {
		n.checkOf(t, samples.Seq(samples.Leaf(6, l...), samples.Leaf(4, 7)))
	})
	octets := []byte{0x00, 0x1d, 0x1f, 0x20, 0x21, 0x24, 0x36, 0x55, 0x80}
	samples.Lists(octets, 4, func(l []byte) {
		n.checkOf(t, samples.Seq(samples.Leaf(6, l...), samples.Leaf(4, 7)))
	})
	n.enough(t, 15000, 15000)
}

// faultCase is an element with the fault that it has.
type faultCase struct {
	name string
	e    api.Element
	err  api.Errno
	path []int
}

func TestOfOrderOfFaults(t *testing.T) {
	o, wrongID := idElement("1.2.3"), samples.Leaf(6, 0x80, 1)
	constraints := idElement("2.5.29.36")
	yes, no := samples.Leaf(1, 0xff), samples.Leaf(1, 0)
	value, long := samples.Leaf(4, 7), samples.Leaf(4, counted(maxBytes+1)...)
	var n tally
	for _, x := range []faultCase{
		{"an invalid element before the tag", samples.Set(o, value, api.Element{Tag: api.Tag{Class: 4}}), api.ErrArg, nil},
		{"an invalid element before no OID", samples.Seq(null(), api.Element{Tag: sequence, Bytes: []byte{1}}), api.ErrArg, nil},
		{"a value with Subs", samples.Seq(o, api.Element{Tag: octetsTag, Subs: []api.Element{value}}), api.ErrArg, nil},
		{"an invalid element at the end", samples.Seq(null(), null(), null(), samples.Nest(null(), 15)), api.ErrDepth, nil},
		{"16 levels at the end", samples.Seq(o, value, samples.Nest(null(), 14)), api.ErrTrail, []int{2}},
		{"8192 elements", samples.Repeat(wrongID, 8191), api.ErrTag, []int{1}},
		{"8193 elements", samples.Repeat(wrongID, 8192), api.ErrLimit, nil},
		{"the tag before the number", samples.Set(), api.ErrTag, nil},
		{"the tag before the fields", samples.Set(null()), api.ErrTag, nil},
		{"a primitive SEQUENCE", samples.Leaf(16, 6, 1, 0x2a, 4, 0), api.ErrTag, nil},
		{"nothing", samples.Seq(), api.ErrShort, nil},
		{"no ID", samples.Seq(value), api.ErrTag, []int{0}},
		{"no ID before the second field", samples.Seq(yes, null()), api.ErrTag, []int{0}},
		{"only an ID", samples.Seq(o), api.ErrShort, nil},
		{"only a wrong ID", samples.Seq(wrongID), api.ErrShort, nil},
		{"no value", samples.Seq(o, yes), api.ErrShort, nil},
		{"no value after a wrong boolean", samples.Seq(wrongID, no), api.ErrShort, nil},
		{"no value but another element", samples.Seq(o, null()), api.ErrTag, []int{1}},
		{"two IDs", samples.Seq(o, o, value), api.ErrTag, []int{1}},
		{"no value but another element after the boolean", samples.Seq(o, yes, null()), api.ErrTag, []int{2}},
		{"two booleans", samples.Seq(o, yes, yes, value), api.ErrTag, []int{2}},
		{"two values", samples.Seq(o, value, value), api.ErrTrail, []int{2}},
		{"two values after a boolean", samples.Seq(o, yes, value, value), api.ErrTrail, []int{3}},
		{"the boolean after the value", samples.Seq(o, value, yes), api.ErrTrail, []int{2}},
		{"another element before the ID", samples.Seq(wrongID, no, long, null(), null()), api.ErrTrail, []int{3}},
		{"the tag of the value before the ID", samples.Seq(wrongID, no, null()), api.ErrTag, []int{2}},
		{"the ID before the boolean", samples.Seq(wrongID, no, long), api.ErrValue, []int{0}},
		{"the ID before the value", samples.Seq(samples.Leaf(6), long), api.ErrShort, []int{0}},
		{"too many arcs", samples.Seq(samples.Leaf(6, make([]byte, 16)...), no, long), api.ErrLimit, []int{0}},
		{"as many arcs as may be", samples.Seq(samples.Leaf(6, make([]byte, 15)...), yes, value), api.OK, nil},
		{"the boolean before the value", samples.Seq(o, no, long), api.ErrValue, []int{1}},
		{"false", samples.Seq(constraints, no, value), api.ErrValue, []int{1}},
		{"no boolean", samples.Seq(o, samples.Leaf(1), value), api.ErrValue, []int{1}},
		{"the value without a boolean", samples.Seq(o, long), api.ErrLimit, []int{1}},
		{"the value after a boolean", samples.Seq(o, yes, long), api.ErrLimit, []int{2}},
		{"the value before what is critical", samples.Seq(constraints, long), api.ErrLimit, []int{1}},
		{"the longest value", samples.Seq(o, samples.Leaf(4, counted(maxBytes)...)), api.OK, nil},
		{"the longest value, critical", samples.Seq(constraints, yes, samples.Leaf(4, counted(maxBytes)...)), api.OK, nil},
		{"a value that cannot be encoded", samples.Seq(o, samples.Leaf(4, make([]byte, maxText)...)), api.ErrLimit, []int{1}},
		{"constraints that are not critical", samples.Seq(constraints, value), api.ErrCritical, nil},
		{"constraints that are not critical, the longest value", samples.Seq(constraints, samples.Leaf(4, counted(maxBytes)...)), api.ErrCritical, nil},
		{"inhibitAnyPolicy that is not critical", samples.Seq(idElement("2.5.29.54"), value), api.ErrCritical, nil},
		{"policies that are not critical", samples.Seq(idElement("2.5.29.32"), value), api.OK, nil},
		{"mappings that are not critical", samples.Seq(idElement("2.5.29.33"), value), api.OK, nil},
	} {
		if got, f := extensions.Of(x.e); !samples.IsFault(f, x.err, x.path...) || f.E != api.OK && !equalOne(got, extensions.Extension{}) {
			t.Errorf("%s: %s, %v", x.name, brief(got), f)
		}
		n.checkOf(t, x.e)
	}
	for i, e := range samples.Cyclic() {
		for _, x := range []api.Element{e, samples.Seq(o, e), samples.Seq(o, value, e)} {
			if got, f := extensions.Of(x); !samples.IsFault(f, api.ErrDepth) || !equalOne(got, extensions.Extension{}) {
				t.Errorf("element %d, which contains itself: %s, %v", i, brief(got), f)
			}
		}
	}
}

// P15.4

// wantCheckAll is CheckAll after the chapter.
func wantCheckAll(l []extensions.Extension) api.Errno {
	rules := []samples.Rule{samples.If(len(l) == 0, api.ErrEmpty), samples.If(len(l) > maxExtensions, api.ErrLimit)}
	seen := map[api.OID]bool{}
	for _, x := range l {
		rules = append(rules, checkRules(x)...)
		rules = append(rules, samples.If(seen[x.ID], api.ErrTwice))
		seen[x.ID] = true
	}
	return samples.FirstFault(rules...).E
}

// wantAll returns the element of a list after the chapter.
func wantAll(l []extensions.Extension) api.Element {
	e := samples.Seq()
	for _, x := range l {
		e.Subs = append(e.Subs, wantElement(x))
	}
	return e
}

// checkAll compares CheckAll and All with the chapter, and AllOf with the list. (P15.4, P15.8)
func (n *tally) checkAll(t *testing.T, l []extensions.Extension) {
	t.Helper()
	want := wantCheckAll(l)
	if err := extensions.CheckAll(l); err != want {
		t.Fatalf("CheckAll(%s): error %d, want %d", brief(l), err, want)
	}
	e, err := extensions.All(l)
	if err != want || want != api.OK && !samples.IsZero(e) {
		t.Fatalf("All(%s): %s, error %d, want %d", brief(l), brief(e), err, want)
	}
	if want != api.OK {
		n.wrong++
		return
	}
	n.right++
	if !samples.Equal(e, wantAll(l)) || elements.Check(e) != api.OK {
		t.Fatalf("All(%s): %s", brief(l), brief(e))
	}
	if back, f := extensions.AllOf(e); !samples.IsFault(f, api.OK) || !equal(back, l) {
		t.Fatalf("AllOf the element of %s: %s, %v", brief(l), brief(back), f)
	}
}

// many returns so many valid extensions with different identifiers.
func many(count int) []extensions.Extension {
	var l []extensions.Extension
	for i := range count {
		l = append(l, extensions.Extension{ID: samples.Arcs(3, 1, 2, uint32(i)), Critical: i%2 == 0, Value: counted(i)})
	}
	return l
}

// someExtensions lists extensions, right and wrong ones, some of them with the same identifier.
func someExtensions() []extensions.Extension {
	invalid := extension("1.2.3", false)
	invalid.ID.Arcs[3] = 4
	return []extensions.Extension{
		extension("1.2.3", false),
		extension("1.2.3", true, 1, 2, 3),
		extension("1.2.4", true),
		extension("2.5.29.32", true, 5, 0),
		extension("2.5.29.33", false, 5, 0),
		extension("2.5.29.36", true),
		extension("2.5.29.36", false),
		extension("2.5.29.54", true, 1),
		extension("2.5.29.54", false, 1),
		{ID: id("1.2.3"), Value: counted(maxBytes + 1)},
		{},
		invalid,
	}
}

func TestAllOfAllShortListsOfExtensions(t *testing.T) {
	var n tally
	samples.Lists(someExtensions(), 4, func(l []extensions.Extension) { n.checkAll(t, l) })
	n.enough(t, 500, 10000)
}

func TestAllLimits(t *testing.T) {
	bad, twice := extensions.Extension{}, many(1)[0]
	var n tally
	for _, x := range []struct {
		name string
		l    []extensions.Extension
		err  api.Errno
	}{
		{"nil", nil, api.ErrEmpty},
		{"empty", []extensions.Extension{}, api.ErrEmpty},
		{"1", many(1), api.OK},
		{"31", many(31), api.OK},
		{"32", many(32), api.OK},
		{"33", many(33), api.ErrLimit},
		{"300", many(300), api.ErrLimit},
		{"33 invalid ones", make([]extensions.Extension, 33), api.ErrLimit},
		{"32 invalid ones", make([]extensions.Extension, 32), api.ErrArg},
		{"33 with the same ID", slices.Repeat(many(1), 33), api.ErrLimit},
		{"32 with the same ID", slices.Repeat(many(1), 32), api.ErrTwice},
		{"an invalid one after 31", append(many(31), bad), api.ErrArg},
		{"an invalid one after 32", append(many(32), bad), api.ErrLimit},
		{"the same ID after 31", append(many(31), twice), api.ErrTwice},
		{"the same ID after 30, and another one", append(many(31)[:30], twice, bad), api.ErrTwice},
	} {
		if err := extensions.CheckAll(x.l); err != x.err {
			t.Errorf("%s: error %d, want %d", x.name, err, x.err)
		}
		n.checkAll(t, x.l)
	}
}

func TestAllOrderOfErrors(t *testing.T) {
	l := someExtensions()
	ok, again, long, zero := l[0], l[1], l[9], l[10]
	constraints, notCritical := l[5], l[6]
	var n tally
	for i, x := range []struct {
		l   []extensions.Extension
		err api.Errno
	}{
		{[]extensions.Extension{ok, again}, api.ErrTwice},
		{[]extensions.Extension{ok, again, zero}, api.ErrTwice},
		{[]extensions.Extension{ok, zero, again}, api.ErrArg},
		{[]extensions.Extension{zero, zero}, api.ErrArg},
		{[]extensions.Extension{ok, long}, api.ErrLimit}, // the error of the extension is before ErrTwice
		{[]extensions.Extension{long, long}, api.ErrLimit},
		{[]extensions.Extension{constraints, notCritical}, api.ErrCritical},
		{[]extensions.Extension{notCritical, constraints}, api.ErrCritical},
		{[]extensions.Extension{constraints, constraints}, api.ErrTwice},
		{[]extensions.Extension{constraints, constraints, notCritical}, api.ErrTwice},
		{[]extensions.Extension{notCritical, zero}, api.ErrCritical},
		{[]extensions.Extension{zero, notCritical}, api.ErrArg},
	} {
		if err := extensions.CheckAll(x.l); err != x.err {
			t.Errorf("%d: error %d, want %d", i, err, x.err)
		}
		n.checkAll(t, x.l)
	}
}

func TestAllOfLongValues(t *testing.T) {
	// The list is valid, whether its element can be encoded or not.
	l := many(32)
	for i := range l {
		l[i].Value = counted(maxBytes)
	}
	var n tally
	for _, count := range []int{15, 16, 17, 32} {
		n.checkAll(t, l[:count])
		e, err := extensions.All(l[:count])
		if _, put := elements.Put(e); err != api.OK || (put == api.ErrLimit) != (count >= 16) {
			t.Errorf("%d extensions: error %d, Put: error %d", count, err, put)
		}
	}
	n.enough(t, 4, 0)
}

func TestAllIsThatOfPackagePkix(t *testing.T) {
	l := append(many(20), extension("2.5.29.36", true, 0x30, 0), extension("2.5.29.32", false, counted(3000)...))
	for from := range l {
		for to := from + 1; to <= len(l); to++ {
			var list []pkix.Extension
			for _, x := range l[from:to] {
				list = append(list, foreign(x))
			}
			e, err := extensions.All(l[from:to])
			want, failed := asn1.Marshal(list)
			if err != api.OK || failed != nil || !bytes.Equal(encode(e), want) {
				t.Fatalf("All(%s): %x, error %d, want %x, %v", brief(l[from:to]), encode(e), err, want, failed)
			}
		}
	}
}

// P15.5

// wantAllOf is AllOf after the chapter.
func wantAllOf(e api.Element) ([]extensions.Extension, fields.Fault) {
	check := elements.Check(e)
	count := len(e.Subs)
	rules := []samples.Rule{
		samples.If(check != api.OK, check),
		samples.If(e.Tag != sequence, api.ErrTag),
		samples.If(count == 0, api.ErrEmpty),
		samples.If(count > maxExtensions, api.ErrLimit, maxExtensions),
	}
	var l []extensions.Extension
	seen := map[api.OID]bool{}
	for i, sub := range e.Subs {
		x, f := wantOf(sub)
		rules = append(rules,
			samples.If(f.E != api.OK, f.E, append([]int{i}, f.Path...)...),
			samples.If(seen[x.ID], api.ErrTwice, i),
		)
		seen[x.ID] = true
		l = append(l, x)
	}
	if f := samples.FirstFault(rules...); f.E != api.OK {
		return nil, f
	}
	return l, fields.Fault{}
}

// checkAllOf compares AllOf with the chapter. (P15.5, P15.8)
func (n *tally) checkAllOf(t *testing.T, e api.Element) {
	t.Helper()
	want, fault := wantAllOf(e)
	l, f := extensions.AllOf(e)
	if !samples.IsFault(f, fault.E, fault.Path...) || !equal(l, want) {
		t.Fatalf("AllOf(%s): %s, %v, want %s, %v", brief(e), brief(l), f, brief(want), fault)
	}
	if f.E != api.OK {
		n.wrong++
		return
	}
	n.right++
	if back, err := extensions.All(l); err != api.OK || !samples.Equal(back, e) {
		t.Fatalf("All of AllOf(%s): %s, error %d", brief(e), brief(back), err)
	}
}

// someElements lists right and wrong elements of extensions.
func someElements() []api.Element {
	o, yes, value := idElement("1.2.3"), samples.Leaf(1, 0xff), samples.Leaf(4, 7)
	return []api.Element{
		samples.Seq(o, value),
		samples.Seq(o, yes, samples.Leaf(4)),
		samples.Seq(idElement("1.2.4"), value),
		samples.Seq(idElement("2.5.29.32"), value),
		samples.Seq(idElement("2.5.29.36"), yes, value),
		samples.Seq(idElement("2.5.29.36"), value),
		samples.Seq(idElement("2.5.29.54"), yes, value),
		samples.Seq(o, samples.Leaf(1, 0), value),
		samples.Seq(o, samples.Leaf(4, counted(maxBytes+1)...)),
		samples.Seq(samples.Leaf(6, 0x80), value),
		samples.Seq(o, value, value),
		samples.Seq(o, null()),
		samples.Seq(o),
		samples.Seq(),
		samples.Set(o, value),
		null(),
		{},
		samples.Nest(null(), 14),
		samples.Nest(null(), 15),
	}
}

func TestAllOfAllShortLists(t *testing.T) {
	var n tally
	samples.Lists(someElements(), 3, func(l []api.Element) { n.checkAllOf(t, samples.Seq(l...)) })
	n.enough(t, 100, 5000)
	samples.Lists(someElements()[:7], 5, func(l []api.Element) { n.checkAllOf(t, samples.Seq(l...)) })
	for _, tag := range samples.Tags() {
		samples.Lists(someElements(), 2, func(l []api.Element) { n.checkAllOf(t, api.Element{Tag: tag, Subs: l}) })
		n.checkAllOf(t, api.Element{Tag: tag, Bytes: []byte{0x30, 0}})
	}
}

func TestAllOfOneExtension(t *testing.T) {
	var n tally
	samples.Lists(parts(), 2, func(l []api.Element) {
		n.checkAllOf(t, samples.Seq(samples.Seq(l...)))
		n.checkAllOf(t, samples.Seq(wantElement(extension("1.2.3", false)), samples.Seq(l...)))
	})
	samples.Lists(commonParts(), 3, func(l []api.Element) {
		n.checkAllOf(t, samples.Seq(samples.Seq(l...)))
		n.checkAllOf(t, samples.Seq(wantElement(extension("1.2.3", false)), samples.Seq(l...)))
	})
	n.enough(t, 20, 5000)
}

// mixed returns a list of so many elements of which one is replaced.
func mixed(count, at int, e api.Element) api.Element {
	whole := wantAll(many(count))
	whole.Subs[at] = e
	return whole
}

func TestAllOfOrderOfFaults(t *testing.T) {
	l := someElements()
	ok, again, notCritical, no, long, wrongID := l[0], l[1], l[5], l[7], l[8], l[9]
	var n tally
	for _, x := range []faultCase{
		{"an invalid element before the tag", samples.Set(ok, api.Element{}), api.ErrTag, nil},
		{"an invalid element before the number", samples.Repeat(ok, 33, api.Element{Tag: sequence, Bytes: []byte{1}}), api.ErrArg, nil},
		{"an invalid element before the fault of another one", samples.Seq(null(), samples.Nest(null(), 15)), api.ErrDepth, nil},
		{"16 levels", samples.Seq(ok, samples.Nest(null(), 14)), api.ErrTag, []int{1, 0}},
		{"8191 elements", samples.Repeat(ok, 2730), api.ErrLimit, []int{32}},
		{"8194 elements", samples.Repeat(ok, 2731), api.ErrLimit, nil},
		{"the tag before the number", samples.Set(), api.ErrTag, nil},
		{"nothing", samples.Seq(), api.ErrEmpty, nil},
		{"33 before the fault of the first one", samples.Repeat(null(), 33), api.ErrLimit, []int{32}},
		{"33 right ones", wantAll(many(33)), api.ErrLimit, []int{32}},
		{"300 right ones", wantAll(many(300)), api.ErrLimit, []int{32}},
		{"32 right ones", wantAll(many(32)), api.OK, nil},
		{"the last one of 32", mixed(32, 31, null()), api.ErrTag, []int{31}},
		{"the last one of 33", mixed(33, 32, null()), api.ErrLimit, []int{32}},
		{"the last one of 32 is the first one", mixed(32, 31, wantElement(many(1)[0])), api.ErrTwice, []int{31}},
		{"the last one of 32 is the one before", mixed(32, 31, wantElement(many(31)[30])), api.ErrTwice, []int{31}},
		{"an extension, and not a list", ok, api.ErrTag, []int{0}},
		{"false", samples.Seq(again, no), api.ErrValue, []int{1, 1}},
		{"a long value", samples.Seq(again, long), api.ErrLimit, []int{1, 1}},
		{"a wrong ID", samples.Seq(again, wrongID), api.ErrValue, []int{1, 0}},
		{"constraints that are not critical", samples.Seq(again, notCritical), api.ErrCritical, []int{1}},
		{"an ID twice", samples.Seq(ok, again), api.ErrTwice, []int{1}},
		{"an ID twice before a fault", samples.Seq(ok, again, null()), api.ErrTwice, []int{1}},
		{"an ID twice after a fault", samples.Seq(ok, null(), again), api.ErrTag, []int{1}},
		{"a fault before what is twice", samples.Seq(ok, no), api.ErrValue, []int{1, 1}},
		{"three times", samples.Seq(l[2], ok, ok, ok), api.ErrTwice, []int{2}},
	} {
		if got, f := extensions.AllOf(x.e); !samples.IsFault(f, x.err, x.path...) || f.E != api.OK && len(got) > 0 {
			t.Errorf("%s: %s, %v", x.name, brief(got), f)
		}
		n.checkAllOf(t, x.e)
	}
	for i, e := range samples.Cyclic() {
		for _, x := range []api.Element{e, samples.Seq(ok, e), samples.Seq(samples.Seq(idElement("1.2.3"), e))} {
			if got, f := extensions.AllOf(x); !samples.IsFault(f, api.ErrDepth) || len(got) > 0 {
				t.Errorf("element %d, which contains itself: %s, %v", i, brief(got), f)
			}
		}
	}
}

// certificates returns certificates of package x509 with different extensions.
func certificates(t *testing.T) []*x509.Certificate {
	t.Helper()
	key := ed25519.NewKeyFromSeed(make([]byte, ed25519.SeedSize))
	var list []*x509.Certificate
	for _, template := range []x509.Certificate{
		{KeyUsage: x509.KeyUsageCertSign},
		{IsCA: true, BasicConstraintsValid: true, MaxPathLen: 3, SubjectKeyId: []byte{1, 2, 3}, KeyUsage: x509.KeyUsageCertSign},
		{DNSNames: []string{"a.example", "b.example"}, ExtKeyUsage: []x509.ExtKeyUsage{x509.ExtKeyUsageServerAuth}, PermittedDNSDomains: []string{"example"}, PermittedDNSDomainsCritical: true},
		{PolicyIdentifiers: []asn1.ObjectIdentifier{{1, 2, 3}, {2, 5, 29, 32, 0}}, CRLDistributionPoints: []string{"http://a.example/"}},
		{ExtraExtensions: []pkix.Extension{
			{Id: asn1.ObjectIdentifier{2, 5, 29, 36}, Critical: true, Value: []byte{0x30, 3, 0x80, 1, 0}},
			{Id: asn1.ObjectIdentifier{2, 5, 29, 54}, Critical: true, Value: []byte{2, 1, 0}},
			{Id: asn1.ObjectIdentifier{2, 5, 29, 33}, Value: []byte{0x30, 0x0a, 0x30, 8, 6, 2, 0x2a, 3, 6, 2, 0x2a, 4}},
			{Id: asn1.ObjectIdentifier{1, 2, 840, 113549, 1, 9, 999}, Value: counted(500)},
		}},
	} {
		template.SerialNumber = big.NewInt(1)
		template.NotBefore, template.NotAfter = time.Unix(0, 0), time.Unix(1, 0)
		b, err := x509.CreateCertificate(nil, &template, &template, key.Public(), key)
		if err != nil {
			t.Fatal(err)
		}
		c, err := x509.ParseCertificate(b)
		if err != nil {
			t.Fatal(err)
		}
		list = append(list, c)
	}
	return list
}

// listElement returns the element of the extensions of a certificate.
func listElement(t *testing.T, c *x509.Certificate) api.Element {
	t.Helper()
	e, _, err := elements.Get(c.RawTBSCertificate)
	if err != api.OK || len(e.Subs) == 0 {
		t.Fatalf("the certificate: error %d", err)
	}
	last := e.Subs[len(e.Subs)-1]
	if last.Tag != (api.Tag{Class: api.Context, Constructed: true, Number: 3}) {
		t.Fatalf("the certificate has no extensions: %v", last.Tag)
	}
	return last.Subs[0]
}

// sameAsForeign reports whether a list is the same as one of package pkix.
func sameAsForeign(l []extensions.Extension, list []pkix.Extension) bool {
	return slices.EqualFunc(l, list, func(x extensions.Extension, y pkix.Extension) bool {
		return objectID(x.ID).Equal(y.Id) && x.Critical == y.Critical && bytes.Equal(x.Value, y.Value)
	})
}

func TestExtensionsOfPackageX509(t *testing.T) {
	var n tally
	for i, c := range certificates(t) {
		e := listElement(t, c)
		l, f := extensions.AllOf(e)
		if !samples.IsFault(f, api.OK) || !sameAsForeign(l, c.Extensions) {
			t.Errorf("certificate %d: %s, %v, want %s", i, brief(l), f, brief(c.Extensions))
		}
		n.checkAllOf(t, e)
		var critical []asn1.ObjectIdentifier
		for _, x := range c.Extensions {
			if x.Critical && x.Id.String() != "2.5.29.36" && x.Id.String() != "2.5.29.54" {
				critical = append(critical, x.Id)
			}
		}
		if got := extensions.Unknown(l); !slices.EqualFunc(got, critical, func(o api.OID, x asn1.ObjectIdentifier) bool { return oids.Text(o) == x.String() }) {
			t.Errorf("certificate %d: Unknown: %v, want %v", i, got, critical)
		}
	}
}

func TestExtensionsThatAreChanged(t *testing.T) {
	r := rand.New(rand.NewSource(1505))
	octets := []byte{0, 1, 2, 3, 4, 5, 6, 0x1d, 0x20, 0x21, 0x24, 0x36, 0x55, 0x30, 0x31, 0x80, 0xa3, 0xff}
	list := [][]byte{encode(wantAll(many(4))), encode(wantAll([]extensions.Extension{extension("2.5.29.32", false), extension("2.5.29.36", true, 1), extension("2.5.29.54", true)}))}
	for _, c := range certificates(t) {
		list = append(list, encode(listElement(t, c)))
	}
	var n tally
	for _, b := range list {
		for range 10000 {
			c := bytes.Clone(b)
			for range 1 + r.Intn(3) {
				c[r.Intn(len(c))] = octets[r.Intn(len(octets))]
			}
			e, _, err := elements.Get(c)
			if err != api.OK {
				continue
			}
			n.checkAllOf(t, e)
			n.checkOf(t, samples.Sub(e, r.Intn(4)))
			l, f := extensions.AllOf(e)
			var theirs []pkix.Extension
			if rest, err := asn1.Unmarshal(c, &theirs); f.E == api.OK && (err != nil || len(rest) > 0 || !sameAsForeign(l, theirs)) {
				t.Fatalf("AllOf(%x): %s, want %s, %v", c, brief(l), brief(theirs), err)
			}
		}
	}
	n.enough(t, 1000, 1000)
}

// P15.6

// anyExtensions lists extensions that look alike, valid and other ones.
func anyExtensions() []extensions.Extension {
	return []extensions.Extension{
		{},
		{Critical: true},
		{ID: id("1.2.3"), Value: []byte{1}},
		{ID: id("1.2.3"), Critical: true, Value: []byte{2, 3}},
		{ID: samples.Arcs(3, 1, 2, 3, 4), Critical: true},
		{ID: id("1.2.4"), Critical: true},
		{ID: id("2.5.29.32"), Critical: true, Value: []byte{4}},
		{ID: id("2.5.29.33"), Critical: true},
		{ID: id("2.5.29.36"), Value: []byte{5}},
		{ID: id("2.5.29.36"), Critical: true},
		{ID: samples.Arcs(4, 2, 5, 29, 36, 1), Critical: true},
		{ID: id("2.5.29.54"), Critical: true},
		{ID: samples.Arcs(255, 2, 5, 29, 54)},
	}
}

// wantFind is Find after the chapter.
func wantFind(l []extensions.Extension, o api.OID) (extensions.Extension, bool) {
	i := slices.IndexFunc(l, func(x extensions.Extension) bool { return x.ID == o })
	if i < 0 {
		return extensions.Extension{}, false
	}
	return l[i], true
}

// wantUnknown is Unknown after the chapter.
func wantUnknown(l []extensions.Extension) []api.OID {
	var list []api.OID
	for _, x := range l {
		if x.Critical && wantKind(x.ID) == 0 {
			list = append(list, x.ID)
		}
	}
	return list
}

// checkLooking compares Find and Unknown with the chapter.
func checkLooking(t *testing.T, l []extensions.Extension, ids []api.OID) {
	t.Helper()
	for _, o := range ids {
		x, found := extensions.Find(l, o)
		if want, is := wantFind(l, o); found != is || !equalOne(x, want) {
			t.Fatalf("Find(%s, %v): %s, %v, want %s, %v", brief(l), o, brief(x), found, brief(want), is)
		}
	}
	if got, want := extensions.Unknown(l), wantUnknown(l); !slices.Equal(got, want) {
		t.Fatalf("Unknown(%s): %v, want %v", brief(l), got, want)
	}
}

func TestFindAndUnknownInAllShortLists(t *testing.T) {
	ids := []api.OID{id("1.2.5"), id("1.2"), id("2.5.29.32.0"), samples.Arcs(0, 1, 2, 3)}
	for _, x := range anyExtensions() {
		ids = append(ids, x.ID)
	}
	samples.Lists(anyExtensions(), 3, func(l []extensions.Extension) { checkLooking(t, l, ids) })
	samples.Lists(anyExtensions()[2:7], 5, func(l []extensions.Extension) { checkLooking(t, l, ids) })
}

func TestFindAndUnknownInLongLists(t *testing.T) {
	l := slices.Concat(many(500), many(600), make([]extensions.Extension, 100000), many(700))
	ids := []api.OID{l[0].ID, l[499].ID, id("1.2.599"), id("1.2.699"), id("1.2.700"), id("1.2.3.4"), {}}
	checkLooking(t, l, ids)
	checkLooking(t, append([]extensions.Extension{{ID: id("1.2.599"), Value: []byte{9}}}, l...), ids)
	checkLooking(t, []extensions.Extension{{ID: l[0].ID, Value: counted(1 << 24)}}, ids)
	for i, o := range someIDs() {
		checkLooking(t, []extensions.Extension{{ID: o, Critical: true}, {ID: o}, {ID: o, Critical: true, Value: []byte{byte(i)}}}, []api.OID{o, {}})
	}
}

// P15.7

// distinct lists lists of which no two are equal, each one new.
func distinct() [][]extensions.Extension {
	list := [][]extensions.Extension{nil}
	single := anyExtensions()
	for i := range api.MaxArcs {
		o := id("1.2.3")
		o.Arcs[i] += 1 << 31
		single = append(single, extensions.Extension{ID: o})
	}
	for _, value := range append(values()[2:], counted(maxBytes+1), counted(1<<20), make([]byte, 1<<20)) {
		single = append(single, extensions.Extension{Value: value}, extensions.Extension{Critical: true, Value: value})
	}
	for _, x := range single {
		list = append(list, []extensions.Extension{x})
	}
	short := anyExtensions()[:5]
	for i, x := range short {
		for k, y := range short {
			list = append(list, []extensions.Extension{x, y}, []extensions.Extension{x, y, short[(i+k)%len(short)]})
		}
	}
	return append(list, many(32), many(33), many(300))
}

func TestSame(t *testing.T) {
	again := distinct()
	for i, a := range distinct() {
		for k, b := range again {
			if extensions.Same(a, b) != (i == k) {
				t.Fatalf("Same(%s, %s): %v", brief(a), brief(b), i != k)
			}
		}
	}
	empty := []extensions.Extension{{Value: []byte{}}}
	if !extensions.Same(nil, []extensions.Extension{}) || !extensions.Same([]extensions.Extension{}, nil) || !extensions.Same(empty, make([]extensions.Extension, 1)) || !extensions.Same(make([]extensions.Extension, 1), empty) {
		t.Error("nil and empty slices are not equal")
	}
}

// P15.8

// randomList returns a valid list.
func randomList(r *rand.Rand) []extensions.Extension {
	ids := []string{"2.5.29.32", "2.5.29.33", "2.5.29.36", "2.5.29.54", "2.5.29.19", "1.2.3", "1.2.3.4", "0.0", "2.999"}
	r.Shuffle(len(ids), func(i, k int) { ids[i], ids[k] = ids[k], ids[i] })
	var l []extensions.Extension
	for _, dotted := range ids[:1+r.Intn(3)] {
		x := extension(dotted, r.Intn(2) == 0, counted(r.Intn(3))...)
		x.Critical = x.Critical || mustBeCritical(x.ID)
		l = append(l, x)
	}
	return l
}

func TestRandomLists(t *testing.T) {
	r := rand.New(rand.NewSource(1508))
	byCode := map[string][]extensions.Extension{}
	var n tally
	for range 20000 {
		l := randomList(r)
		n.checkAll(t, l)
		for _, x := range l {
			checkElement(t, x)
		}
		e, _ := extensions.All(l)
		code := string(encode(e))
		if other, is := byCode[code]; is && !extensions.Same(l, other) {
			t.Fatalf("%v and %v have the same element", l, other)
		}
		byCode[code] = l
	}
	if n.wrong > 0 {
		t.Errorf("%d lists are not valid", n.wrong)
	}
	var all [][]extensions.Extension
	for _, l := range byCode {
		all = append(all, l)
	}
	for i, a := range all[:500] {
		for k, b := range all[:500] {
			if extensions.Same(a, b) != (i == k) {
				t.Fatalf("Same(%v, %v): %v", a, b, i != k)
			}
		}
	}
}

// The examples of the chapter.

func TestExamples(t *testing.T) {
	for i, x := range []struct {
		x    extensions.Extension
		want string
	}{
		{extensions.Extension{ID: oids.Of(2, 5, 29, 54), Critical: true, Value: []byte{2, 1, 0}}, "\x30\x0d\x06\x03\x55\x1d\x36\x01\x01\xff\x04\x03\x02\x01\x00"},
		{extensions.Extension{ID: oids.Of(2, 5, 29, 32)}, "\x30\x07\x06\x03\x55\x1d\x20\x04\x00"},
	} {
		e, err := extensions.Element(x.x)
		if b := encode(e); err != api.OK || string(b) != x.want {
			t.Errorf("Element, example %d: %x, error %d", i, b, err)
		}
	}
	if err := extensions.Check(extensions.Extension{ID: oids.Of(2, 5, 29, 36)}); err != api.ErrCritical {
		t.Errorf("Check of constraints: error %d", err)
	}
	if err := extensions.Check(extensions.Extension{ID: oids.Of(2, 5, 29, 33)}); err != api.OK {
		t.Errorf("Check of mappings: error %d", err)
	}
	e, _, _ := elements.Get([]byte("\x30\x0a\x06\x03\x55\x1d\x20\x01\x01\x00\x04\x00"))
	if x, f := extensions.Of(e); !samples.IsFault(f, api.ErrValue, 1) || !equalOne(x, extensions.Extension{}) {
		t.Errorf("Of: %v, %v", x, f)
	}
	l := []extensions.Extension{{ID: oids.Of(1, 2, 3), Critical: true}, {ID: oids.Of(2, 5, 29, 32), Critical: true}, {ID: oids.Of(1, 2, 4)}}
	if got := extensions.Unknown(l); !slices.Equal(got, []api.OID{oids.Of(1, 2, 3)}) {
		t.Errorf("Unknown: %v", got)
	}
}

// R4

// asElement returns an element that refers to the memory of the values of a list.
func asElement(l []extensions.Extension) api.Element {
	e := api.Element{Subs: make([]api.Element, len(l))}
	for i, x := range l {
		e.Subs[i].Bytes = x.Value
	}
	return e
}

// asList returns a list whose values are the Bytes of the Subs of an element.
func asList(e api.Element) []extensions.Extension {
	l := make([]extensions.Extension, len(e.Subs))
	for i, sub := range e.Subs {
		l[i] = extensions.Extension{ID: samples.Arcs(3, 1, 2, uint32(i)), Critical: i%2 == 0, Value: sub.Bytes}
	}
	return l
}

// checkMemory checks that what make returns for an element is new memory.
func checkMemory(t *testing.T, name string, e api.Element, make func(e api.Element) api.Element) {
	t.Helper()
	if flaw := samples.MemoryFlaw(e, make); flaw != "" {
		t.Errorf("%s: %s", name, flaw)
	}
}

func TestResultsAreNewMemory(t *testing.T) {
	for size := range 40 {
		value := samples.Leaf(4, counted(size)...)
		list := samples.Repeat(value, 1+size%32)
		for _, critical := range []bool{false, true} {
			build := func(e api.Element) extensions.Extension {
				return extensions.Extension{ID: id("1.2.3"), Critical: critical, Value: e.Bytes}
			}
			checkMemory(t, "Element", value, func(e api.Element) api.Element {
				e, _ = extensions.Element(build(e))
				return e
			})
			checkMemory(t, "Of", wantElement(build(value)), func(e api.Element) api.Element {
				x, _ := extensions.Of(e)
				return api.Element{Bytes: x.Value}
			})
		}
		checkMemory(t, "All", list, func(e api.Element) api.Element {
			e, _ = extensions.All(asList(e))
			return e
		})
		checkMemory(t, "AllOf", wantAll(asList(list)), func(e api.Element) api.Element {
			l, _ := extensions.AllOf(e)
			if cap(l) > len(l) {
				t.Error("AllOf: spare capacity")
			}
			return asElement(l)
		})
		checkMemory(t, "Find", list, func(e api.Element) api.Element {
			x, _ := extensions.Find(asList(e), samples.Arcs(3, 1, 2, uint32(size%32)))
			return api.Element{Bytes: x.Value}
		})
	}
}

func TestUnknownIsNewMemory(t *testing.T) {
	for count := range 40 {
		l := many(count)
		first, second := extensions.Unknown(l), extensions.Unknown(l)
		if cap(first) > len(first) {
			t.Errorf("%d extensions: spare capacity", count)
		}
		clear(first)
		if !slices.Equal(second, wantUnknown(l)) || !equal(l, many(count)) {
			t.Errorf("%d extensions: two results share memory, or one with the list", count)
		}
	}
}

func TestPathsAreNewMemory(t *testing.T) {
	for _, e := range []api.Element{
		samples.Seq(null()),
		samples.Seq(idElement("1.2.3"), samples.Leaf(4), null()),
		samples.Seq(samples.Leaf(6), samples.Leaf(4)),
		samples.Seq(idElement("1.2.3"), samples.Leaf(1, 0), samples.Leaf(4)),
		samples.Seq(idElement("1.2.3"), samples.Leaf(1, 0xff), samples.Leaf(4, counted(maxBytes+1)...)),
	} {
		for _, read := range []func() fields.Fault{
			func() fields.Fault { _, f := extensions.Of(e); return f },
			func() fields.Fault { _, f := extensions.AllOf(samples.Seq(e)); return f },
		} {
			if flaw := samples.PathFlaw(read); flaw != "" {
				t.Errorf("%s: %s", brief(e), flaw)
			}
		}
	}
	ok := samples.Seq(idElement("1.2.3"), samples.Leaf(4))
	for _, e := range []api.Element{samples.Seq(ok, ok), samples.Repeat(ok, 33), samples.Seq(samples.Seq(idElement("2.5.29.36"), samples.Leaf(4)))} {
		if flaw := samples.PathFlaw(func() fields.Fault { _, f := extensions.AllOf(e); return f }); flaw != "" {
			t.Errorf("%s: %s", brief(e), flaw)
		}
	}
}

func TestArgumentsAreNotChanged(t *testing.T) {
	build := func() []extensions.Extension {
		return append(make([]extensions.Extension, 0, 10), extension("1.2.3", true, 1, 2), extension("2.5.29.36", true), extension("2.5.29.32", false, counted(100)...))
	}
	l := build()
	for _, x := range l {
		x.Value = append(make([]byte, 0, 200), x.Value...)
		extensions.Check(x)
		extensions.Element(x)
		if len(bytes.Trim(x.Value[len(x.Value):200], "\x00")) > 0 {
			t.Errorf("what follows the value is changed: %v", x)
		}
	}
	extensions.CheckAll(l)
	extensions.All(l)
	extensions.Find(l, l[1].ID)
	extensions.Unknown(l)
	extensions.Same(l, l)
	if !equal(l, build()) || !equalOne(l[:4][3], extensions.Extension{}) {
		t.Errorf("the list is changed: %v", l)
	}
	e := wantAll(build())
	extensions.AllOf(e)
	extensions.Of(e.Subs[0])
	if !samples.Equal(e, wantAll(build())) {
		t.Errorf("the element is changed: %v", e)
	}
}
