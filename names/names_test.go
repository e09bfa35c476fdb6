package names_test

import (
	"bytes"
	"crypto/ed25519"
	"crypto/x509"
	"crypto/x509/pkix"
	"encoding/asn1"
	"encoding/hex"
	"fmt"
	"math/big"
	"math/rand"
	"regexp"
	"slices"
	"strings"
	"testing"
	"time"
	"unicode/utf16"
	"unicode/utf8"

	"vidimus/api"
	"vidimus/charstrings"
	"vidimus/elements"
	"vidimus/fields"
	"vidimus/names"
	"vidimus/oids"
	"vidimus/samples"
)

// The limits of the document.
const (
	maxRDNs       = 16
	maxAttributes = 8
	maxText       = 1 << 20
	maxString     = 65536 // of a character string
)

// The tags of the chapter.
var (
	sequence = api.Tag{Constructed: true, Number: 16}
	set      = api.Tag{Constructed: true, Number: 17}
	idTag    = api.Tag{Number: 6}
)

// kinds are the letters of the chapter.
var kinds = []struct {
	letter string
	kind   uint32
}{{"u", 12}, {"p", 19}, {"i", 22}, {"v", 26}, {"b", 30}}

// shorts are the short names of the chapter.
var shorts = []struct{ short, dotted string }{{"CN", "2.5.4.3"}, {"C", "2.5.4.6"}, {"L", "2.5.4.7"}, {"ST", "2.5.4.8"}, {"O", "2.5.4.10"}, {"OU", "2.5.4.11"}}

func null() api.Element { return samples.Leaf(5) }

// word returns the element of a character string, whether it is one or not.
func word(kind uint32, text string) api.Element {
	if kind != 30 {
		return samples.Leaf(kind, []byte(text)...)
	}
	var octets []byte
	for _, unit := range utf16.Encode([]rune(text)) {
		octets = append(octets, byte(unit>>8), byte(unit))
	}
	return samples.Leaf(kind, octets...)
}

// attribute returns an attribute.
func attribute(id api.OID, value api.Element) names.Attribute {
	return names.Attribute{Type: id, Value: value}
}

// named returns an attribute with a type in dotted form.
func named(dotted string, value api.Element) names.Attribute {
	id, err := oids.Parse(dotted)
	if err != api.OK {
		panic(dotted)
	}
	return attribute(id, value)
}

// common returns an attribute CN in UTF-8.
func common(text string) names.Attribute { return named("2.5.4.3", word(12, text)) }

// single returns a name whose relative distinguished names have one attribute each.
func single(list ...names.Attribute) names.Name {
	var n names.Name
	for _, a := range list {
		n = append(n, []names.Attribute{a})
	}
	return n
}

// many returns so many attributes in their order.
func many(count int) []names.Attribute {
	var rdn []names.Attribute
	for i := range count {
		rdn = append(rdn, attribute(samples.Arcs(3, 1, 2, uint32(i)), null()))
	}
	return rdn
}

// equal compares names as the document does.
func equal(a, b names.Name) bool {
	return slices.EqualFunc(a, b, func(a, b []names.Attribute) bool {
		return slices.EqualFunc(a, b, func(a, b names.Attribute) bool {
			return a.Type == b.Type && samples.Equal(a.Value, b.Value)
		})
	})
}

// encode returns the encoding of an element; nil if there is none, or it is too large.
func encode(e api.Element) []byte {
	b, _ := elements.Put(e)
	return b
}

// brief shows what may be long.
func brief(x any) string {
	s := fmt.Sprintf("%v", x)
	return s[:min(len(s), 300)]
}

// P14.1

// attributeElement returns the element of an attribute after the chapter.
func attributeElement(a names.Attribute) api.Element {
	octets, _ := oids.Put(a.Type)
	return samples.Seq(samples.Leaf(6, octets...), a.Value)
}

// wantElement returns the element of a name after the chapter.
func wantElement(n names.Name) api.Element {
	e := samples.Seq()
	for _, rdn := range n {
		x := samples.Set()
		for _, a := range rdn {
			x.Subs = append(x.Subs, attributeElement(a))
		}
		e.Subs = append(e.Subs, x)
	}
	return e
}

// orderError returns the error of an element of a SET OF after another one.
func orderError(before, e api.Element) api.Errno {
	switch bytes.Compare(encode(before), encode(e)) {
	case 1:
		return api.ErrOrder
	case 0:
		return api.ErrTwice
	}
	return api.OK
}

// wantCheck is Check after the chapter: the first rule that is broken.
func wantCheck(n names.Name) api.Errno {
	rules := []samples.Rule{samples.If(len(n) > maxRDNs, api.ErrLimit)}
	for _, rdn := range n[:min(len(n), maxRDNs)] {
		rules = append(rules, samples.If(len(rdn) == 0, api.ErrEmpty), samples.If(len(rdn) > maxAttributes, api.ErrLimit))
		for _, a := range rdn {
			id, value := oids.Check(a.Type), elements.Check(a.Value)
			rules = append(rules, samples.If(id != api.OK, id), samples.If(value != api.OK, value))
		}
		for k, a := range rdn {
			whole := elements.Check(attributeElement(a))
			rules = append(rules, samples.If(whole != api.OK, whole))
			if k > 0 && samples.FirstFault(rules...).E == api.OK {
				order := orderError(attributeElement(rdn[k-1]), attributeElement(a))
				rules = append(rules, samples.If(order != api.OK, order))
			}
		}
	}
	whole := elements.Check(wantElement(n))
	return samples.FirstFault(append(rules, samples.If(whole != api.OK, whole))...).E
}

// checkName compares Check and Element with the chapter. (P14.1, P14.2, P14.6)
func checkName(t *testing.T, n names.Name) {
	t.Helper()
	checkElement(t, n, wantCheck(n))
}

// checkElement compares Check and Element with an error and the element that a name has without one. (P14.1, P14.2, P14.6)
func checkElement(t *testing.T, n names.Name, want api.Errno) {
	t.Helper()
	if err := names.Check(n); err != want {
		t.Fatalf("Check(%s): error %d, want %d", brief(n), err, want)
	}
	e, err := names.Element(n)
	if err != want || want != api.OK && !samples.IsZero(e) {
		t.Fatalf("Element(%s): %v, error %d, want %d", brief(n), brief(e), err, want)
	}
	if want != api.OK {
		return
	}
	if !samples.Equal(e, wantElement(n)) {
		t.Fatalf("Element(%s): %s", brief(n), brief(e))
	}
	if back, f := names.Of(e); !samples.IsFault(f, api.OK) || !equal(back, n) {
		t.Fatalf("Of the element of %s: %s, %v", brief(n), brief(back), f)
	}
}

// values lists values of all kinds, each one new; no attribute with one of them is wrong by itself.
func values() []api.Element {
	return []api.Element{
		null(),
		word(12, ""),
		word(12, "x"),
		word(12, "é中\U0001f600"),
		word(19, "DE"),
		word(22, "a@b"),
		word(26, "x=1,y+2"),
		word(30, "é中"),
		word(19, "@"),
		samples.Leaf(20, 'x'),
		samples.Leaf(12, 0xff),
		samples.Leaf(30, 1),
		samples.Leaf(6, 0x2a, 3),
		samples.Leaf(6, 0x80),
		samples.Seq(),
		samples.Set(null(), null()),
		samples.Seq(null(), samples.Leaf(2, 1, 2, 3), samples.Seq(null())),
		{Tag: api.Tag{Constructed: true, Number: 12}},
		{Tag: api.Tag{Class: api.Context, Number: 12}, Bytes: []byte("x")},
		{Tag: api.Tag{Class: api.Private, Constructed: true, Number: 1000}, Subs: []api.Element{samples.Leaf(1, 1)}},
		{Tag: api.Tag{Class: api.Context}},
		samples.Leaf(4, make([]byte, 300)...),
		samples.Nest(null(), 12),
		samples.Repeat(null(), 2000),
	}
}

// badValues lists values that no valid name has, with their errors.
func badValues() []struct {
	name string
	e    api.Element
	err  api.Errno
} {
	type row = struct {
		name string
		e    api.Element
		err  api.Errno
	}
	list := []row{
		{"zero", api.Element{}, api.ErrTag},
		{"no class", api.Element{Tag: api.Tag{Class: 4, Number: 5}}, api.ErrArg},
		{"a primitive SEQUENCE", samples.Leaf(16), api.ErrTag},
		{"a primitive SET", samples.Leaf(17), api.ErrTag},
		{"Subs in a character string", api.Element{Tag: api.Tag{Number: 12}, Subs: []api.Element{null()}}, api.ErrArg},
		{"Bytes in a SEQUENCE", api.Element{Tag: sequence, Bytes: []byte{1}}, api.ErrArg},
		{"an invalid element within", samples.Seq(null(), samples.Seq(null(), api.Element{})), api.ErrTag},
		{"14 levels", samples.Nest(null(), 13), api.ErrDepth},
		{"15 levels", samples.Nest(null(), 14), api.ErrDepth},
		{"16 levels", samples.Nest(null(), 15), api.ErrDepth},
		{"17 levels", samples.Nest(null(), 16), api.ErrDepth},
		{"100 levels", samples.Nest(null(), 99), api.ErrDepth},
		{"8189 elements", samples.Repeat(null(), 8188), api.ErrLimit},
		{"8190 elements", samples.Repeat(null(), 8189), api.ErrLimit},
		{"8191 elements", samples.Repeat(null(), 8190), api.ErrLimit},
		{"8192 elements", samples.Repeat(null(), 8191), api.ErrLimit},
		{"10000 elements", samples.Repeat(null(), 9999), api.ErrLimit},
		{"16 levels before 9000 elements", samples.Seq(samples.Nest(null(), 15), samples.Repeat(null(), 9000)), api.ErrDepth},
		{"9000 elements before 16 levels", samples.Seq(samples.Repeat(null(), 9000), samples.Nest(null(), 15)), api.ErrLimit},
	}
	for _, e := range samples.Cyclic() {
		list = append(list, row{"an element that contains itself", e, api.ErrDepth})
	}
	return list
}

func TestElementOfEveryAttribute(t *testing.T) {
	types := samples.OIDs()
	for _, x := range shorts {
		types = append(types, named(x.dotted, null()).Type)
	}
	for _, id := range types {
		for _, e := range values() {
			checkElement(t, single(attribute(id, e)), api.OK)
		}
		for _, x := range badValues() {
			checkElement(t, single(attribute(id, x.e)), x.err)
			checkElement(t, single(common("x"), attribute(id, x.e)), x.err)
		}
	}
	// The error of the type comes before that of the value.
	for _, id := range samples.NoOIDs() {
		for _, e := range values() {
			checkElement(t, single(attribute(id, e)), api.ErrArg)
		}
		for _, x := range badValues() {
			checkElement(t, single(attribute(id, x.e)), api.ErrArg)
		}
	}
}

// someAttributes lists attributes, right and wrong ones, in no order.
func someAttributes() []names.Attribute {
	large := samples.Leaf(4, make([]byte, maxText)...) // valid, but too large to be encoded
	return []names.Attribute{
		named("1.2.3", null()),
		common("x"),
		common("y"),
		common(""),
		common("xy"),
		named("2.5.4.6", word(19, "DE")),
		named("1.2.3", samples.Seq()),
		named("1.2.3", samples.Set()),
		named("1.2.3", large),
		named("1.2.4", large),
		attribute(api.OID{}, null()),
		attribute(samples.Arcs(3, 1, 2, 3, 4), samples.Leaf(16)),
		named("1.2.3", api.Element{}),
		named("1.2.3", samples.Leaf(16)),
		named("1.2.3", api.Element{Tag: sequence, Bytes: []byte{1}}),
		named("1.2.3", samples.Nest(null(), 12)),
		named("1.2.3", samples.Nest(null(), 13)),
		named("1.2.3", samples.Nest(null(), 15)),
		named("1.2.3", samples.Nest(null(), 16)),
		named("1.2.3", samples.Cyclic()[1]),
	}
}

func TestElementOfAllShortListsOfAttributes(t *testing.T) {
	samples.Lists(someAttributes(), 3, func(rdn []names.Attribute) {
		checkName(t, names.Name{rdn})
	})
	samples.Lists(someAttributes(), 2, func(rdn []names.Attribute) {
		checkName(t, names.Name{{common("x")}, rdn})
		checkName(t, names.Name{rdn, {}})
	})
}

// someRDNs lists relative distinguished names, right and wrong ones.
func someRDNs() [][]names.Attribute {
	return [][]names.Attribute{
		{common("x")},
		{common("x"), common("y")},
		many(8),
		many(9),
		nil,
		{common("y"), common("x")},
		{common("x"), common("x")},
		{attribute(samples.Arcs(1, 1), null())},
		{named("1.2.3", api.Element{})},
		{named("1.2.3", samples.Nest(null(), 13))},
		{named("1.2.3", samples.Nest(null(), 14))},
		{named("1.2.3", samples.Repeat(null(), 5000))},
		{named("1.2.3", samples.Leaf(4, make([]byte, maxText)...))},
		append(many(8), attribute(api.OID{}, api.Element{})),
	}
}

func TestElementOfAllShortListsOfRDNs(t *testing.T) {
	samples.Lists(someRDNs(), 3, func(n [][]names.Attribute) { checkName(t, n) })
}

func TestElementLimits(t *testing.T) {
	full := names.Name(slices.Repeat([][]names.Attribute{many(8)}, 16))
	for _, x := range []struct {
		name string
		n    names.Name
		err  api.Errno
	}{
		{"nil", nil, api.OK},
		{"empty", names.Name{}, api.OK},
		{"16 by 8", full, api.OK},
		{"17 by 8", append(slices.Clone(full), many(8)), api.ErrLimit},
		{"16 by 1", full[:16], api.OK},
		{"17 by 1", slices.Repeat(single(common("x")), 17), api.ErrLimit},
		{"300 by 1", slices.Repeat(single(common("x")), 300), api.ErrLimit},
		{"17 by 0", make(names.Name, 17), api.ErrLimit},
		{"16 by 0", make(names.Name, 16), api.ErrEmpty},
		{"1 by 7", names.Name{many(7)}, api.OK},
		{"1 by 8", names.Name{many(8)}, api.OK},
		{"1 by 9", names.Name{many(9)}, api.ErrLimit},
		{"1 by 300", names.Name{many(127), many(127)}, api.ErrLimit},
		{"1 by 9, invalid", names.Name{make([]names.Attribute, 9)}, api.ErrLimit},
		{"1 by 8, invalid", names.Name{make([]names.Attribute, 8)}, api.ErrArg},
		{"an empty one after 15", append(slices.Clone(full[:15]), nil), api.ErrEmpty},
		{"nine after 15", append(slices.Clone(full[:15]), many(9)), api.ErrLimit},
	} {
		if err := names.Check(x.n); err != x.err {
			t.Errorf("%s: error %d, want %d", x.name, err, x.err)
		}
		checkName(t, x.n)
	}
}

func TestElementDepthAndNumber(t *testing.T) {
	for _, x := range []struct {
		levels int
		err    api.Errno
	}{{1, api.OK}, {13, api.OK}, {14, api.ErrDepth}, {15, api.ErrDepth}, {16, api.ErrDepth}, {17, api.ErrDepth}} {
		n := single(named("1.2.3", samples.Nest(null(), x.levels-1)))
		checkElement(t, n, x.err)
		checkName(t, n)
	}
	// A name with one attribute has three elements before the value, and a second one has three before its value, too.
	for _, x := range []struct {
		counts []int
		err    api.Errno
	}{
		{[]int{8188}, api.OK},
		{[]int{8189}, api.ErrLimit},
		{[]int{8190}, api.ErrLimit},
		{[]int{8191}, api.ErrLimit},
		{[]int{8192}, api.ErrLimit},
		{[]int{8193}, api.ErrLimit},
		{[]int{4092, 4093}, api.OK},
		{[]int{4093, 4093}, api.ErrLimit},
		{[]int{8184, 1}, api.OK},
		{[]int{8184, 2}, api.ErrLimit},
		{[]int{1, 8184}, api.OK},
		{[]int{2, 8184}, api.ErrLimit},
	} {
		var n names.Name
		for _, count := range x.counts {
			n = append(n, single(named("1.2.3", samples.Repeat(null(), count-1)))...)
		}
		checkElement(t, n, x.err)
		checkName(t, n)
	}
}

func TestElementOrderOfErrors(t *testing.T) {
	ok, low := common("x"), common("a")
	badID, badValue := attribute(api.OID{}, null()), named("1.2.3", samples.Leaf(16))
	deep, whole := named("1.2.3", samples.Nest(null(), 15)), named("1.2.2", samples.Nest(null(), 13))
	for i, x := range []struct {
		n   names.Name
		err api.Errno
	}{
		{names.Name{{ok}, {}, {badID}}, api.ErrEmpty},
		{names.Name{{ok}, {badID}, {}}, api.ErrArg},
		{names.Name{{ok}, {badValue}, {}}, api.ErrTag},
		{names.Name{{badValue, badID}}, api.ErrTag},
		{names.Name{{badID, badValue}}, api.ErrArg},
		{names.Name{{ok, low, badID}}, api.ErrArg},
		{names.Name{{ok, low, badValue}}, api.ErrTag},
		{names.Name{{ok, low}, {badID}}, api.ErrOrder},
		{names.Name{{ok, ok}, {badValue}}, api.ErrTwice},
		{names.Name{{ok, ok, low}}, api.ErrTwice},
		{names.Name{{ok, low, low}}, api.ErrOrder},
		{names.Name{{ok, low, deep}}, api.ErrOrder},
		{names.Name{{deep, ok, ok}}, api.ErrDepth},
		{names.Name{{deep}, {badID}}, api.ErrDepth},
		{names.Name{{deep}, {}}, api.ErrDepth},
		{names.Name{{whole}, {badID}}, api.ErrArg},
		{names.Name{{whole}, {}}, api.ErrEmpty},
		{names.Name{{whole}, {ok, low}}, api.ErrOrder},
		{names.Name{{whole}, {ok}}, api.ErrDepth},
		{names.Name{{ok, whole}}, api.ErrDepth}, // 30 08 .. is before 30 1e ..
		{names.Name{{whole, ok}}, api.ErrOrder},
	} {
		if err := names.Check(x.n); err != x.err {
			t.Errorf("%d: error %d, want %d", i, err, x.err)
		}
		checkName(t, x.n)
	}
}

// rdnSequence returns a name as package pkix has it.
func rdnSequence(n names.Name) pkix.RDNSequence {
	l := pkix.RDNSequence{}
	for _, rdn := range n {
		var x pkix.RelativeDistinguishedNameSET
		for _, a := range rdn {
			var id asn1.ObjectIdentifier
			for _, arc := range a.Type.Arcs[:a.Type.N] {
				id = append(id, int(arc))
			}
			x = append(x, pkix.AttributeTypeAndValue{Type: id, Value: asn1.RawValue{FullBytes: encode(a.Value)}})
		}
		l = append(l, x)
	}
	return l
}

// validNames lists valid names, each one new.
func validNames() []names.Name {
	list := []names.Name{
		nil,
		{many(8)},
		slices.Repeat([][]names.Attribute{many(8)}, 16),
		single(common("x"), common("x")),
		{{common("x"), common("y")}, {common("a")}},
		{{named("2.5.4.6", word(19, "DE"))}, {named("2.5.4.10", word(12, "A, B"))}, {named("1.2.3", null()), common("x")}},
		single(common("quote \" backslash \\ new line \n delete \x7f null digits 00")),
	}
	for _, id := range samples.OIDs() {
		for _, e := range values() {
			list = append(list, single(attribute(id, e)))
		}
	}
	for _, x := range shorts {
		for _, y := range kinds {
			list = append(list, single(common("x"), named(x.dotted, word(y.kind, y.letter))))
		}
	}
	return list
}

func TestElementIsThatOfPackagePkix(t *testing.T) {
	for _, n := range validNames() {
		e, err := names.Element(n)
		want, failed := asn1.Marshal(rdnSequence(n))
		if err != api.OK || failed != nil || !bytes.Equal(encode(e), want) {
			t.Errorf("Element(%s): %x, error %d, want %x, %v", brief(n), encode(e), err, want, failed)
		}
	}
}

// P14.2

// wantOf is Of after the chapter: the fault of the first rule that is broken.
func wantOf(e api.Element) (names.Name, fields.Fault) {
	if check := elements.Check(e); check != api.OK {
		return nil, fields.Fault{E: check}
	}
	rules := []samples.Rule{samples.If(e.Tag != sequence, api.ErrTag), samples.If(len(e.Subs) > maxRDNs, api.ErrLimit, maxRDNs)}
	var n names.Name
	for i, x := range e.Subs {
		rules = append(rules,
			samples.If(x.Tag != set, api.ErrTag, i),
			samples.If(len(x.Subs) == 0, api.ErrEmpty, i),
			samples.If(len(x.Subs) > maxAttributes, api.ErrLimit, i, maxAttributes),
		)
		var rdn []names.Attribute
		for k, a := range x.Subs {
			id, err := oids.Get(samples.Sub(a, 0).Bytes)
			rules = append(rules,
				samples.If(a.Tag != sequence, api.ErrTag, i, k),
				samples.If(len(a.Subs) == 0, api.ErrShort, i, k),
				samples.If(samples.Sub(a, 0).Tag != idTag, api.ErrTag, i, k, 0),
				samples.If(len(a.Subs) == 1, api.ErrShort, i, k),
				samples.If(len(a.Subs) > 2, api.ErrTrail, i, k, 2),
				samples.If(err != api.OK, err, i, k, 0),
			)
			rdn = append(rdn, attribute(id, samples.Sub(a, 1)))
		}
		for k := range x.Subs[min(1, len(x.Subs)):] {
			err := orderError(x.Subs[k], x.Subs[k+1])
			rules = append(rules, samples.If(err != api.OK, err, i, k+1))
		}
		n = append(n, rdn)
	}
	if f := samples.FirstFault(rules...); f.E != api.OK {
		return nil, f
	}
	return n, fields.Fault{}
}

// checkOf compares Of with the chapter. (P14.2, P14.6)
func checkOf(t *testing.T, e api.Element) {
	t.Helper()
	want, fault := wantOf(e)
	n, f := names.Of(e)
	if !samples.IsFault(f, fault.E, fault.Path...) || !equal(n, want) {
		t.Fatalf("Of(%s): %s, %v, want %s, %v", brief(e), brief(n), f, brief(want), fault)
	}
	if f.E != api.OK {
		return
	}
	if back, err := names.Element(n); err != api.OK || !samples.Equal(back, e) {
		t.Fatalf("Element of Of(%s): %s, error %d", brief(e), brief(back), err)
	}
}

// someParts lists elements of which attributes are made: right and wrong parts.
func someParts() []api.Element {
	return []api.Element{
		samples.Leaf(6, 0x2a, 3),
		samples.Leaf(6, 0x55, 4, 3),
		samples.Leaf(6),
		samples.Leaf(6, 0x80, 1),
		samples.Leaf(6, 0x2a, 0x86),
		samples.Leaf(6, make([]byte, 16)...),
		samples.Leaf(6, 0x90, 0x80, 0x80, 0x80, 0),
		{Tag: api.Tag{Constructed: true, Number: 6}, Subs: []api.Element{null()}},
		{Tag: api.Tag{Class: api.Context, Number: 6}, Bytes: []byte{0x2a, 3}},
		{Tag: idTag, Bytes: []byte{0x2a, 3}, Subs: []api.Element{null()}},
		null(),
		word(12, "x"),
		samples.Leaf(12, 0xff),
		samples.Seq(),
		samples.Seq(samples.Leaf(6, 0x2a, 3), null()),
		{},
		{Tag: api.Tag{Class: 9}},
		samples.Leaf(17),
	}
}

func TestOfAllShortListsOfParts(t *testing.T) {
	ok := samples.Seq(samples.Leaf(6, 0x2a, 3), null())
	samples.Lists(someParts(), 3, func(l []api.Element) { checkOf(t, samples.Seq(samples.Set(samples.Seq(l...)))) })
	samples.Lists(someParts(), 2, func(l []api.Element) {
		checkOf(t, samples.Seq(samples.Set(ok), samples.Set(ok, samples.Seq(l...))))
		checkOf(t, samples.Seq(samples.Set(samples.Seq(l...), ok), samples.Set()))
	})
	for _, tag := range samples.Tags() {
		samples.Lists(someParts(), 2, func(l []api.Element) {
			checkOf(t, samples.Seq(samples.Set(api.Element{Tag: tag, Subs: l})))
		})
	}
}

// someAttributeElements lists elements of which relative distinguished names are made, right and wrong ones, in no order.
func someAttributeElements() []api.Element {
	id := samples.Leaf(6, 0x2a, 3)
	large := samples.Leaf(4, make([]byte, maxText)...)
	return []api.Element{
		samples.Seq(id, null()),
		samples.Seq(id, word(12, "x")),
		samples.Seq(id, word(12, "")),
		samples.Seq(samples.Leaf(6, 0x55, 4, 3), word(12, "x")),
		samples.Seq(id, large),
		samples.Seq(samples.Leaf(6, 0x2a, 4), large),
		samples.Seq(id),
		samples.Seq(),
		samples.Seq(id, null(), null()),
		samples.Seq(null(), null()),
		samples.Seq(samples.Leaf(6, 0x80, 1), null()),
		samples.Set(id, null()),
		{Tag: api.Tag{Class: api.Context, Constructed: true, Number: 16}, Subs: []api.Element{id, null()}},
		{Tag: sequence, Bytes: []byte{6, 1, 0x2a, 5, 0}},
		samples.Seq(id, api.Element{}),
		null(),
		{},
	}
}

func TestOfAllShortListsOfAttributes(t *testing.T) {
	ok := samples.Set(samples.Seq(samples.Leaf(6, 0x2a, 3), null()))
	samples.Lists(someAttributeElements(), 3, func(l []api.Element) { checkOf(t, samples.Seq(samples.Set(l...))) })
	samples.Lists(someAttributeElements(), 2, func(l []api.Element) {
		checkOf(t, samples.Seq(ok, samples.Set(l...)))
		checkOf(t, samples.Seq(samples.Set(l...), samples.Set()))
		checkOf(t, samples.Set(samples.Set(l...)))
	})
	for _, tag := range samples.Tags() {
		for _, a := range someAttributeElements() {
			checkOf(t, samples.Seq(api.Element{Tag: tag, Subs: []api.Element{a}}))
			checkOf(t, samples.Seq(ok, api.Element{Tag: tag, Subs: []api.Element{a, a}}))
		}
	}
}

func TestOfAllShortListsOfRDNs(t *testing.T) {
	id := samples.Leaf(6, 0x2a, 3)
	ok := samples.Seq(id, null())
	list := []api.Element{
		samples.Set(ok),
		samples.Set(ok, samples.Seq(id, samples.Seq())),
		samples.Set(ok, ok),
		samples.Set(samples.Seq(id, samples.Seq()), ok),
		samples.Set(),
		samples.Seq(ok),
		ok,
		samples.Set(ok, null()),
		samples.Set(samples.Seq(id)),
		samples.Set(samples.Seq(samples.Leaf(6), null())),
		{Tag: set, Subs: slices.Repeat([]api.Element{null()}, 9)},
		{Tag: set, Subs: wantElement(names.Name{many(8)}).Subs[0].Subs},
		{Tag: set, Bytes: []byte{1}},
		samples.Leaf(17),
		{},
	}
	samples.Lists(list, 3, func(l []api.Element) { checkOf(t, samples.Seq(l...)) })
	for _, tag := range samples.Tags() {
		samples.Lists(list, 2, func(l []api.Element) { checkOf(t, api.Element{Tag: tag, Subs: l}) })
		checkOf(t, api.Element{Tag: tag, Bytes: []byte{0x31, 0}})
	}
}

func TestOfOrderOfFaults(t *testing.T) {
	id := samples.Leaf(6, 0x2a, 3)
	ok, twice := samples.Seq(id, null()), samples.Set(samples.Seq(id, null()), samples.Seq(id, null()))
	for _, x := range []struct {
		name string
		e    api.Element
		err  api.Errno
		path []int
	}{
		{"no RDN", samples.Seq(), api.OK, nil},
		{"an invalid element before the tag", samples.Set(samples.Seq(ok, api.Element{Tag: api.Tag{Class: 4}})), api.ErrArg, nil},
		{"an invalid element before the number", samples.Repeat(null(), 17, samples.Nest(null(), 15)), api.ErrDepth, nil},
		{"the tag before the number", api.Element{Tag: set, Subs: slices.Repeat([]api.Element{twice}, 17)}, api.ErrTag, nil},
		{"the number before the RDNs", samples.Repeat(samples.Set(), 17), api.ErrLimit, []int{16}},
		{"100 RDNs", samples.Repeat(twice, 100), api.ErrLimit, []int{16}},
		{"16 RDNs", samples.Repeat(samples.Set(ok), 15, samples.Set()), api.ErrEmpty, []int{15}},
		{"the tag of an RDN before its number", samples.Seq(samples.Set(ok), samples.Seq()), api.ErrTag, []int{1}},
		{"no attribute", samples.Seq(samples.Set(ok), samples.Set()), api.ErrEmpty, []int{1}},
		{"the number of attributes before them", samples.Seq(samples.Set(ok), api.Element{Tag: set, Subs: slices.Repeat([]api.Element{null()}, 9)}), api.ErrLimit, []int{1, 8}},
		{"the order of the first RDN before the tag of the second one", samples.Seq(twice, samples.Seq()), api.ErrTwice, []int{0, 1}},
		{"an attribute before the order", samples.Seq(samples.Set(ok, ok, null())), api.ErrTag, []int{0, 2}},
		{"an identifier before the order", samples.Seq(samples.Set(ok, ok, samples.Seq(samples.Leaf(6), null()))), api.ErrShort, []int{0, 2, 0}},
		{"a third part before the identifier", samples.Seq(samples.Set(samples.Seq(samples.Leaf(6), null(), null()))), api.ErrTrail, []int{0, 0, 2}},
		{"no value before the identifier", samples.Seq(samples.Set(samples.Seq(samples.Leaf(6)))), api.ErrShort, []int{0, 0}},
		{"the identifier before the next attribute", samples.Seq(samples.Set(samples.Seq(samples.Leaf(6, 0x80), null()), null())), api.ErrValue, []int{0, 0, 0}},
		{"the first ones of two", samples.Seq(samples.Set(ok, samples.Seq(id, samples.Seq()), ok, ok)), api.ErrOrder, []int{0, 2}},
		{"sixteen octets", samples.Seq(samples.Set(samples.Seq(samples.Leaf(6, make([]byte, 16)...), null()))), api.ErrLimit, []int{0, 0, 0}},
	} {
		if n, f := names.Of(x.e); !samples.IsFault(f, x.err, x.path...) || len(n) > 0 {
			t.Errorf("%s: %v, %v", x.name, n, f)
		}
		checkOf(t, x.e)
	}
}

func TestOfElementsThatContainThemselves(t *testing.T) {
	for i, e := range samples.Cyclic() {
		for _, x := range []api.Element{e, samples.Seq(samples.Set(e)), samples.Set(e), samples.Seq(samples.Set(samples.Seq(samples.Leaf(6, 0x2a, 3), e)))} {
			if n, f := names.Of(x); !samples.IsFault(f, api.ErrDepth) || len(n) > 0 {
				t.Errorf("element %d: %v", i, f)
			}
		}
	}
}

func TestOfLimits(t *testing.T) {
	for _, n := range []names.Name{
		{many(8)},
		slices.Repeat([][]names.Attribute{many(8)}, 16),
		single(named("1.2.3", samples.Nest(null(), 12))),
		single(named("1.2.3", samples.Repeat(null(), 8187))),
		single(named("1.2.3", samples.Leaf(4, make([]byte, maxText)...))),
		{{named("1.2.3", samples.Leaf(4, make([]byte, maxText)...)), common("x")}},
		{many(9)},
		slices.Repeat(single(common("x")), 17),
		single(named("1.2.3", samples.Nest(null(), 13))),
		single(named("1.2.3", samples.Repeat(null(), 8188))),
	} {
		checkOf(t, wantElement(n))
	}
}

func TestNamesThatAreTooLargeToBeCopied(t *testing.T) {
	// It is valid, but has 2^31 bytes, of which rule R8 promises nothing; no such memory is asked for.
	n := single(named("1.2.3", samples.Repeat(samples.Leaf(4, make([]byte, maxText)...), 1<<11)))
	if e, err := names.Element(n); err != api.ErrLimit || !samples.IsZero(e) || names.Check(n) != api.OK {
		t.Errorf("Element: error %d", err)
	}
	if got, f := names.Of(wantElement(n)); !samples.IsFault(f, api.ErrLimit) || len(got) > 0 {
		t.Errorf("Of: %v", f)
	}
	if s, err := names.Text(n); err != api.ErrLimit || s != "" {
		t.Errorf("Text: error %d", err)
	}
	if !names.Same(n, n) {
		t.Error("Same is false")
	}
}

// changed returns octets with some of them changed.
func changed(r *rand.Rand, b []byte) []byte {
	c := bytes.Clone(b)
	for range 1 + r.Intn(3) {
		c[r.Intn(len(c))] = []byte{0, 1, 2, 3, 5, 6, 12, 0x30, 0x31, 0x55, 0x80, 0xa0, byte(r.Intn(256))}[r.Intn(13)]
	}
	return c
}

func TestOfNamesThatAreChanged(t *testing.T) {
	r := rand.New(rand.NewSource(14))
	read, good := 0, 0
	for _, n := range validNames() {
		b := encode(wantElement(n))
		if len(b) > 200 {
			continue
		}
		for range 1000 {
			e, _, err := elements.Get(changed(r, b))
			if err != api.OK {
				continue
			}
			read++
			checkOf(t, e)
			if _, f := names.Of(e); f.E == api.OK {
				good++
			}
		}
	}
	if read < 5000 || good < 1000 || good == read {
		t.Errorf("%d changed names are elements, %d of them of names", read, good)
	}
}

// certificates returns certificates of package x509 with different subjects.
func certificates(t *testing.T) []*x509.Certificate {
	t.Helper()
	key := ed25519.NewKeyFromSeed(make([]byte, ed25519.SeedSize))
	var list []*x509.Certificate
	for _, subject := range []pkix.Name{
		{},
		{CommonName: "x"},
		{Country: []string{"DE", "AT"}, Organization: []string{"Müller & Söhne", "A, B"}, CommonName: "中"},
		{SerialNumber: "12", Locality: []string{"a@b"}, Province: []string{"Q"}, StreetAddress: []string{"s", "t", "r"}, PostalCode: []string{"0"}},
		{ExtraNames: []pkix.AttributeTypeAndValue{{Type: asn1.ObjectIdentifier{1, 2, 3}, Value: 5}, {Type: asn1.ObjectIdentifier{1, 2, 3}, Value: "z"}}},
	} {
		template := x509.Certificate{SerialNumber: big.NewInt(1), Subject: subject, NotBefore: time.Unix(0, 0), NotAfter: time.Unix(1, 0)}
		b, err := x509.CreateCertificate(nil, &template, &template, key.Public(), key)
		if err != nil {
			t.Fatal(err)
		}
		c, err := x509.ParseCertificate(b)
		if err != nil {
			t.Fatal(err)
		}
		list = append(list, c)
	}
	return list
}

func TestNamesOfPackageX509(t *testing.T) {
	for _, c := range certificates(t) {
		e, _, err := elements.Get(c.RawSubject)
		if err != api.OK {
			t.Fatalf("%x is no element", c.RawSubject)
		}
		checkOf(t, e)
		n, f := names.Of(e)
		var want pkix.RDNSequence
		if _, err := asn1.Unmarshal(c.RawSubject, &want); err != nil || f.E != api.OK || len(n) != len(want) {
			t.Fatalf("Of(%x): %v, %v", c.RawSubject, n, f)
		}
		for i, rdn := range n {
			for k, a := range rdn {
				var value any
				asn1.Unmarshal(encode(a.Value), &value)
				if oids.Text(a.Type) != want[i][k].Type.String() || value != want[i][k].Value {
					t.Errorf("%x at %d, %d: %v, want %v", c.RawSubject, i, k, a, want[i][k])
				}
			}
		}
		checkText(t, n)
	}
}

// P14.3

// wantSame is Same after the chapter.
func wantSame(a, b names.Name) bool {
	if len(a) != len(b) {
		return false
	}
	for i := range a {
		if len(a[i]) != len(b[i]) {
			return false
		}
		for k := range a[i] {
			if a[i][k].Type != b[i][k].Type || !elements.Same(a[i][k].Value, b[i][k].Value) {
				return false
			}
		}
	}
	return true
}

func TestSameOfValidNames(t *testing.T) {
	a, b := validNames(), validNames()
	for i := range a {
		for k := range b {
			x, y := encode(wantElement(a[i])), encode(wantElement(b[k]))
			if got := names.Same(a[i], b[k]); got != bytes.Equal(x, y) || got != wantSame(a[i], b[k]) {
				t.Errorf("Same(%s, %s): %v", brief(a[i]), brief(b[k]), got)
			}
		}
		if !names.Same(a[i], b[i]) {
			t.Errorf("%s is not the same as itself", brief(a[i]))
		}
	}
}

func TestSameOfAllValues(t *testing.T) {
	bad := named("1.2.3", api.Element{})
	list := []names.Name{
		nil,
		{nil},
		{{}, nil},
		{{common("x")}},
		{{common("y")}},
		{{common("x")}, {}},
		{{}, {common("x")}},
		{{common("x"), common("y")}},
		{{common("y"), common("x")}},
		{{common("x")}, {common("y")}},
		{{common("y")}, {common("x")}},
		{{common("x"), common("x")}},
		{{named("1.2.3", null())}},
		{{named("1.2.3", null())}, {bad}},
		{{bad}},
		{{bad}, {named("1.2.3", null())}},
		{{attribute(samples.Arcs(3, 1, 2, 3, 4), null())}},
		{{attribute(samples.Arcs(3, 1, 2, 3, 5), null())}},
		{{attribute(samples.Arcs(17, 1, 2, 3), null())}},
		{{attribute(api.OID{}, null())}},
		{many(9)},
		{many(300)},
		make(names.Name, 17),
		slices.Repeat(single(common("x")), 300),
		{{named("1.2.3", samples.Nest(null(), 15))}},
		{{named("1.2.3", samples.Nest(null(), 16))}},
		{{named("1.2.3", samples.Repeat(null(), 8191))}},
		{{named("1.2.3", samples.Repeat(null(), 8192))}},
	}
	for _, e := range samples.Cyclic() {
		list = append(list, single(named("1.2.3", e)))
	}
	for i, a := range list {
		for k, b := range list {
			got := names.Same(a, b)
			if got != wantSame(a, b) || got && i != k {
				t.Errorf("Same(%d, %d): %v", i, k, got)
			}
		}
	}
	for i, want := range map[int]bool{0: true, 1: true, 2: true, 3: true, 11: true, 13: false, 14: false, 15: false, 16: true, 19: true, 21: true, 22: true, 24: true, 25: false, 26: true, 27: false, 28: false} {
		if names.Same(list[i], list[i]) != want {
			t.Errorf("name %d and itself: %v", i, !want)
		}
	}
	if !names.Same(names.Name{nil}, names.Name{{}}) || !names.Same(nil, names.Name{}) {
		t.Error("nil and empty slices are different")
	}
}

// P14.4

// escapes is how the characters are written that are not written as they are.
var escapes = func() *strings.Replacer {
	list := []string{`"`, `\"`, `\`, `\\`, "\x7f", `\7f`}
	for c := range 0x20 {
		list = append(list, string(rune(c)), fmt.Sprintf(`\%02x`, c))
	}
	return strings.NewReplacer(list...)
}()

// wantType returns the text of a type after the chapter.
func wantType(id api.OID) string {
	for _, x := range shorts {
		if oids.Text(id) == x.dotted {
			return x.short
		}
	}
	return oids.Text(id)
}

// wantValue returns the text of a value after the chapter.
func wantValue(e api.Element) string {
	s, err := charstrings.Of(e)
	if err != api.OK {
		return "#" + hex.EncodeToString(encode(e))
	}
	for _, x := range kinds {
		if x.kind == s.Kind {
			return x.letter + `"` + escapes.Replace(s.Text) + `"`
		}
	}
	panic("there is no such kind")
}

// wantText returns the text of a valid name, of any length, after the chapter. No value of it may be too large to be encoded.
func wantText(n names.Name) string {
	var rdns []string
	for _, rdn := range n {
		var list []string
		for _, a := range rdn {
			list = append(list, wantType(a.Type)+"="+wantValue(a.Value))
		}
		rdns = append(rdns, strings.Join(list, "+"))
	}
	return strings.Join(rdns, ",")
}

// checkText compares Text of a valid name, and Parse of the text, with the chapter. (P14.4, P14.5, P14.6)
func checkText(t *testing.T, n names.Name) {
	t.Helper()
	want := wantText(n)
	s, err := names.Text(n)
	if len(want) > maxText {
		if s != "" || err != api.ErrLimit {
			t.Fatalf("Text of %d bytes: %d bytes, error %d", len(want), len(s), err)
		}
		return
	}
	if s != want || err != api.OK {
		t.Fatalf("Text(%s): %s, error %d, want %s", brief(n), brief(s), err, brief(want))
	}
	if back, err := names.Parse(s); err != api.OK || !equal(back, n) || !names.Same(back, n) {
		t.Fatalf("Parse(%s): %s, error %d", brief(s), brief(back), err)
	}
}

func TestText(t *testing.T) {
	for _, n := range validNames() {
		checkText(t, n)
	}
	for last := range uint32(70) {
		for _, id := range []api.OID{samples.Arcs(4, 2, 5, 4, last), samples.Arcs(4, 2, 5, 5, last), samples.Arcs(3, 2, 5, last), samples.Arcs(5, 2, 5, 4, last, 0), samples.Arcs(4, 2, 4, 4, last), samples.Arcs(4, 1, 5, 4, last)} {
			checkText(t, single(attribute(id, null())))
		}
	}
}

func TestTextOfAllCharacters(t *testing.T) {
	for kind := range uint32(40) {
		if kind == 16 || kind == 17 || kind == 0 {
			continue // there is no such primitive element
		}
		for c := range rune(0x101) {
			checkText(t, single(named("1.2.3", word(kind, string(c)))))
			checkText(t, single(named("1.2.3", word(kind, "a"+string(c)+"b"+string(c)))))
		}
		for octet := range 256 {
			checkText(t, single(named("1.2.3", samples.Leaf(kind, byte(octet)))))
			checkText(t, single(named("1.2.3", samples.Leaf(kind, 0, byte(octet)))))
		}
	}
	var text strings.Builder
	for c := range rune(utf8.MaxRune + 1) {
		if utf8.ValidRune(c) && c > 0 {
			text.WriteRune(c)
		}
		if text.Len() < 1000 && c < utf8.MaxRune {
			continue
		}
		for _, x := range kinds {
			checkText(t, single(named("1.2.3", word(x.kind, text.String()))))
		}
		text.Reset()
	}
}

func TestTextOfOtherElements(t *testing.T) {
	for class := range api.Class(4) {
		for number := range uint32(40) {
			for _, constructed := range []bool{false, true} {
				e := api.Element{Tag: api.Tag{Class: class, Constructed: constructed, Number: number}}
				if elements.Check(e) != api.OK {
					continue
				}
				checkText(t, single(named("1.2.3", e)))
				if constructed {
					e.Subs = []api.Element{word(12, "x"), null()}
				} else {
					e.Bytes = []byte("x")
				}
				checkText(t, single(named("1.2.3", e)))
			}
		}
	}
}

func TestTextErrors(t *testing.T) {
	samples.Lists(someRDNs(), 2, func(n [][]names.Attribute) {
		want := wantCheck(n)
		if want == api.OK && encode(wantElement(n)) == nil {
			want = api.ErrLimit
		}
		if want == api.OK {
			checkText(t, n)
		} else if s, err := names.Text(n); s != "" || err != want {
			t.Errorf("Text(%s): %s, error %d, want %d", brief(names.Name(n)), brief(s), err, want)
		}
	})
	for _, x := range badValues() {
		if s, err := names.Text(single(named("1.2.3", x.e))); s != "" || err != x.err {
			t.Errorf("%s: %s, error %d, want %d", x.name, brief(s), err, x.err)
		}
	}
	// The error of the name comes before the limit.
	large := named("1.2.3", samples.Leaf(4, make([]byte, maxText)...))
	for _, n := range []names.Name{{{large}, {}}, {{large, large}}, {{large}, {common("y"), common("x")}}} {
		if s, err := names.Text(n); s != "" || err != wantCheck(n) || err == api.ErrLimit {
			t.Errorf("Text(%s): %s, error %d", brief(n), brief(s), err)
		}
	}
}

// sized returns a name of 16 attributes whose text has so many bytes.
func sized(size int) names.Name {
	const outer = len(`CN=u"",`)
	n := slices.Repeat(single(common(strings.Repeat("x", maxString-outer))), 15)
	return append(n, single(common(strings.Repeat("x", size-15*maxString-outer+1)))...)
}

func TestTextLimit(t *testing.T) {
	for size := maxText - 1; size <= maxText+2; size++ {
		n := sized(size)
		if len(wantText(n)) != size || wantCheck(n) != api.OK {
			t.Fatalf("a text has %d bytes instead of %d, error %d", len(wantText(n)), size, wantCheck(n))
		}
		checkText(t, n)
	}
	// Digits, characters that become longer, and longer ones still.
	for _, x := range []struct {
		e      api.Element
		counts []int
	}{
		{samples.Leaf(4, make([]byte, maxText/2)...), []int{1}},
		{samples.Leaf(4, make([]byte, maxText-10)...), []int{1, 2}},
		{samples.Leaf(4, make([]byte, maxText-5)...), []int{1}}, // it can be encoded, and no name with it
		{word(12, strings.Repeat("\n", maxString)), []int{1, 5, 6, 16}},
		{word(12, strings.Repeat("\"", maxString)), []int{1, 7, 8}},
		{word(12, strings.Repeat("x", maxString+1)), []int{1, 7, 8}}, // no character string any more
		{word(30, strings.Repeat("é", maxString/2)), []int{1, 15, 16}},
		{word(30, strings.Repeat("é", maxString/2+1)), []int{1, 7, 8}},
	} {
		for _, count := range x.counts {
			n := slices.Repeat(single(named("1.2.3", x.e)), count)
			if wantCheck(n) != api.OK {
				t.Fatal("the name is not valid")
			}
			checkText(t, n)
		}
	}
	for size := maxText/2 - 12; size <= maxText/2-6; size++ {
		checkText(t, single(named("1.2.3", samples.Leaf(4, make([]byte, size)...))))
	}
}

func TestTextOfLargeNamesEndsSoon(t *testing.T) {
	e := samples.Leaf(4, make([]byte, maxText-40)...)
	var rdn []names.Attribute
	for i := range uint32(8) {
		rdn = append(rdn, attribute(samples.Arcs(3, 1, 2, i), e))
	}
	n := names.Name(slices.Repeat([][]names.Attribute{rdn}, 16))
	start := time.Now()
	if s, err := names.Text(n); s != "" || err != api.ErrLimit {
		t.Errorf("%d bytes, error %d", len(s), err)
	}
	if took := time.Since(start); took > 20*time.Second {
		t.Errorf("Text took %v", took)
	}
}

// P14.5

// The form of an attribute: any characters as the type, and a value.
var (
	quoted = regexp.MustCompile(`^([^=]*)=([upivb])"((?:[^"\\\x00-\x1f\x7f]|\\["\\]|\\[01][0-9a-f]|\\7f)*)"`)
	digits = regexp.MustCompile(`^([^=]*)=#((?:[0-9a-f][0-9a-f])*)`)
	escape = regexp.MustCompile(`\\(?:["\\]|[0-9a-f]{2})`)
)

// referType returns the type with a text after the chapter, and whether there is one.
func referType(s string) (api.OID, bool) {
	for _, x := range shorts {
		if s == x.dotted {
			return api.OID{}, false
		}
		if s == x.short {
			s = x.dotted
			break
		}
	}
	id, err := oids.Parse(s)
	return id, err == api.OK
}

// plain returns the characters of a text between quotation marks.
func plain(s string) string {
	return escape.ReplaceAllStringFunc(s, func(x string) string {
		if b, err := hex.DecodeString(x[1:]); err == nil {
			return string(b)
		}
		return x[1:]
	})
}

// referAttribute returns the attribute at the beginning of a text after the chapter, what follows it, and whether there is one.
func referAttribute(s string) (a names.Attribute, rest string, ok bool) {
	if m := quoted.FindStringSubmatch(s); m != nil {
		id, found := referType(m[1])
		text := api.CharString{Kind: kinds[strings.Index("upivb", m[2])].kind, Text: plain(m[3])}
		return attribute(id, word(text.Kind, text.Text)), s[len(m[0]):], found && charstrings.Check(text) == api.OK
	}
	if m := digits.FindStringSubmatch(s); m != nil {
		id, found := referType(m[1])
		b, _ := hex.DecodeString(m[2])
		e, _, err := elements.Get(b)
		_, none := charstrings.Of(e)
		return attribute(id, e), s[len(m[0]):], found && err == api.OK && none != api.OK
	}
	return names.Attribute{}, "", false
}

// refer returns the name with a text after the chapter, and whether there is one.
func refer(s string) (names.Name, bool) {
	n := names.Name{nil}
	for rest := s; rest != ""; {
		a, after, ok := referAttribute(rest)
		if !ok {
			return nil, false
		}
		n[len(n)-1] = append(n[len(n)-1], a)
		if after == "" {
			return n, wantCheck(n) == api.OK
		}
		switch after[0] {
		case ',':
			n = append(n, nil)
		case '+':
		default:
			return nil, false
		}
		rest = after[1:]
	}
	return nil, s == ""
}

// checkParse compares Parse with the chapter, and returns whether it accepts s. (P14.5, P14.6)
func checkParse(t *testing.T, s string) bool {
	t.Helper()
	want, ok := refer(s)
	n, err := names.Parse(s)
	if !ok {
		if err != api.ErrForm || len(n) > 0 {
			t.Fatalf("Parse(%q): %s, error %d", brief(s), brief(n), err)
		}
		return false
	}
	if err != api.OK || !equal(n, want) {
		t.Fatalf("Parse(%q): %s, error %d, want %s", brief(s), brief(n), err, brief(want))
	}
	if text, err := names.Text(n); text != s || err != api.OK {
		t.Fatalf("Text of Parse(%q): %q, error %d", brief(s), brief(text), err)
	}
	return true
}

// parsed counts which of some strings Parse accepts.
type parsed struct{ good, bad int }

func (p *parsed) check(t *testing.T, s string) {
	t.Helper()
	if checkParse(t, s) {
		p.good++
	} else {
		p.bad++
	}
}

// enough checks that there were strings of both kinds.
func (p *parsed) enough(t *testing.T, good, bad int) {
	t.Helper()
	if p.good < good || p.bad < bad {
		t.Errorf("%d strings are texts, %d are not", p.good, p.bad)
	}
}

// joined calls use with all strings of up to size parts.
func joined(parts []string, size int, use func(s string)) {
	samples.Lists(parts, size, func(l []string) { use(strings.Join(l, "")) })
}

func TestParseOfAllShortSequences(t *testing.T) {
	var p parsed
	joined([]string{`CN=u"x"`, `1.2.3=#0500`, `CN=u"y"`, `C=p"DE"`, ",", "+"}, 6, func(s string) { p.check(t, s) })
	p.enough(t, 50, 10000)
	joined([]string{"CN", "1.2.3", "=", `u"x"`, "#0500", ",", "+", " ", "u", `"`, "#", "05", `\`, "\n"}, 4, func(s string) { p.check(t, s) })
	joined([]string{"CN", "=", `u"x"`, "#0500", ",", "+", `"`}, 6, func(s string) { p.check(t, s) })
}

func TestParseOfAllShortStrings(t *testing.T) {
	var p parsed
	parts := []string{`"`, `\`, "0", "1", "4", "7", "f", "F", "x", "é", "\x01", "\x7f", "\xc3"}
	for _, x := range kinds {
		joined(parts, 4, func(s string) { p.check(t, "CN="+x.letter+`"`+s+`"`) })
	}
	p.enough(t, 10000, 10000)
	joined(parts, 4, func(s string) { p.check(t, `CN=i"`+s) })
}

func TestParseOfAllEscapes(t *testing.T) {
	var p parsed
	for _, x := range kinds {
		letter := x.letter
		for a := range 256 {
			for b := range 256 {
				p.check(t, fmt.Sprintf(`CN=%s"x\%sy"`, letter, []byte{byte(a), byte(b)}))
			}
			p.check(t, fmt.Sprintf(`CN=%s"%s"`, letter, []byte{byte(a)}))
			p.check(t, fmt.Sprintf(`CN=%s"\%02X"`, letter, a))
			p.check(t, fmt.Sprintf(`CN=%s"\%02x"`, letter, a))
			p.check(t, fmt.Sprintf(`CN=%s"\%03x"`, letter, a))
			p.check(t, fmt.Sprintf(`CN=%s"\%x`, letter, a))
			p.check(t, fmt.Sprintf(`CN=%s"\%c"`, letter, a))
		}
		for _, c := range []string{`\`, `\\\`, `\"`, `\\"`, `\`, "\xff", "\xed\xa0\x80", "\xf4\x90\x80\x80", "\xc0\x80", "\ufffd", "\uffff", "\U00010000", `\c3\a9`, `\u00e9`, `\é`} {
			p.check(t, "CN="+letter+`"`+c+`"`)
			p.check(t, "CN="+letter+`"`+c)
		}
	}
	p.enough(t, 500, 10000)
}

func TestParseOfAllLetters(t *testing.T) {
	var p parsed
	for c := range 256 {
		p.check(t, "CN="+string([]byte{byte(c)})+`"x"`)
		p.check(t, "CN"+string([]byte{byte(c)})+`u"x"`)
		p.check(t, "CN=u"+string([]byte{byte(c)})+`x"`)
		p.check(t, `CN=u"x`+string([]byte{byte(c)}))
		p.check(t, `CN=u"x"`+string([]byte{byte(c)}))
		p.check(t, `CN=u"x"`+string([]byte{byte(c)})+`CN=u"y"`)
		p.check(t, string([]byte{byte(c)})+`=u"x"`)
		p.check(t, string([]byte{byte(c)})+`CN=u"x"`)
	}
	for _, letter := range []string{"", "up", "uu", "U", "é", "中", "12"} {
		p.check(t, "CN="+letter+`"x"`)
	}
	p.enough(t, 10, 1000)
}

func TestParseOfTypes(t *testing.T) {
	var p parsed
	joined([]string{"C", "N", "L", "S", "T", "O", "U", "c", "2", ".", "5", "4", "0", " "}, 4, func(s string) {
		p.check(t, s+"=#0500")
	})
	for last := range 100 {
		p.check(t, fmt.Sprintf("2.5.4.%d=#0500", last))
		p.check(t, fmt.Sprintf("2.5.4.%02d=#0500", last))
		p.check(t, fmt.Sprintf("2.5.4.%d.0=#0500", last))
	}
	for _, s := range []string{"2.5.4294967295", "2.5.4294967296", "2.4294967215", "2.4294967216", "3.1", "1.40", "1.39", strings.Repeat("1.", 15) + "1", strings.Repeat("1.", 16) + "1", "?", "2.5.4.3=CN", "DC", "E", "SN"} {
		p.check(t, s+"=#0500")
	}
	p.enough(t, 150, 10000)
}

func TestParseOfDigits(t *testing.T) {
	var p parsed
	joined([]string{"0", "1", "5", "a", "A", "c", "f", "g", "#"}, 5, func(s string) { p.check(t, "1.2.3=#"+s) })
	for tag := range 256 {
		for _, content := range []string{"00", "0178", "02ff00", "0100", "80", "03050000"} {
			p.check(t, fmt.Sprintf("1.2.3=#%02x%s", tag, content))
			p.check(t, fmt.Sprintf("1.2.3=#%02x%s+CN=u\"x\"", tag, content))
			p.check(t, fmt.Sprintf("1.2.3=#%02x%s,CN=u\"x\"", tag, content))
			p.check(t, fmt.Sprintf("1.2.3=#%02X%s", tag, content))
		}
	}
	p.enough(t, 500, 10000)
}

// digitsOf returns the text of a name with an element as a value, which may be none.
func digitsOf(e api.Element) string { return "1.2.3=#" + hex.EncodeToString(rawOctets(e)) }

// rawOctets returns the octets of an element of any depth and number of elements with the universal tags of the samples.
func rawOctets(e api.Element) []byte {
	content := e.Bytes
	for _, sub := range e.Subs {
		content = append(content, rawOctets(sub)...)
	}
	b, err := asn1.Marshal(asn1.RawValue{Tag: int(e.Tag.Number), IsCompound: e.Tag.Constructed, Bytes: content})
	if err != nil {
		panic(err)
	}
	return b
}

func TestParseOfInvalidNames(t *testing.T) {
	// Whatever their errors are, what Parse returns is ErrForm.
	for _, x := range []struct {
		name string
		s    string
		want api.Errno
	}{
		{"nothing", "", api.OK},
		{"16 RDNs", strings.Repeat(`CN=u"x",`, 15) + `CN=u"x"`, api.OK},
		{"17 RDNs", strings.Repeat(`CN=u"x",`, 16) + `CN=u"x"`, api.ErrForm},
		{"300 RDNs", strings.Repeat(`CN=u"x",`, 299) + `CN=u"x"`, api.ErrForm},
		{"8 attributes", wantText(names.Name{many(8)}), api.OK},
		{"9 attributes", wantText(names.Name{many(9)}), api.ErrForm},
		{"100 attributes", wantText(names.Name{many(100)}), api.ErrForm},
		{"16 by 8", wantText(slices.Repeat([][]names.Attribute{many(8)}, 16)), api.OK},
		{"an attribute twice", `CN=u"x"+CN=u"x"`, api.ErrForm},
		{"attributes in another order", `CN=u"y"+CN=u"x"`, api.ErrForm},
		{"attributes in their order", `CN=u"x"+CN=u"y"`, api.OK},
		{"no RDN", ",", api.ErrForm},
		{"no RDN at the end", `CN=u"x",`, api.ErrForm},
		{"no RDN at the beginning", `,CN=u"x"`, api.ErrForm},
		{"no attribute", "+", api.ErrForm},
		{"no attribute at the end", `CN=u"x"+`, api.ErrForm},
		{"13 levels", digitsOf(samples.Nest(null(), 12)), api.OK},
		{"14 levels", digitsOf(samples.Nest(null(), 13)), api.ErrForm},
		{"16 levels", digitsOf(samples.Nest(null(), 15)), api.ErrForm},
		{"17 levels", digitsOf(samples.Nest(null(), 16)), api.ErrForm},
		{"8188 elements", digitsOf(samples.Repeat(null(), 8187)), api.OK},
		{"8189 elements", digitsOf(samples.Repeat(null(), 8188)), api.ErrForm},
		{"8193 elements", digitsOf(samples.Repeat(null(), 8192)), api.ErrForm},
		{"65536 characters", `CN=u"` + strings.Repeat("x", maxString) + `"`, api.OK},
		{"65537 characters", `CN=u"` + strings.Repeat("x", maxString+1) + `"`, api.ErrForm},
		{"65536 characters as digits", digitsOf(word(12, strings.Repeat("x", maxString))), api.ErrForm},
		{"65537 characters as digits", digitsOf(word(12, strings.Repeat("x", maxString+1))), api.OK},
	} {
		if n, err := names.Parse(x.s); err != x.want || err != api.OK && len(n) > 0 {
			t.Errorf("%s: error %d, want %d", x.name, err, x.want)
		}
		checkParse(t, x.s)
	}
}

func TestParseLimit(t *testing.T) {
	full, _ := names.Text(sized(maxText))
	octets := fmt.Sprintf("1.2=#0483%06x", (maxText-16)/2)
	for _, x := range []struct {
		name string
		s    string
		want api.Errno
	}{
		{"a text", full, api.OK},
		{"a text of digits", octets + strings.Repeat("00", (maxText-16)/2) + "", api.OK},
		{"a text and a byte", full + "x", api.ErrLimit},
		{"a text and a comma", full + ",", api.ErrLimit},
		{"another form", "x" + full[1:], api.ErrForm},
		{"another form, and longer", "xx" + full[1:], api.ErrLimit},
		{"the end is wrong", full[:maxText-1] + "x", api.ErrForm},
		{"a byte, repeated", strings.Repeat("x", maxText), api.ErrForm},
		{"a byte, repeated once more", strings.Repeat("x", maxText+1), api.ErrLimit},
		{"much longer", strings.Repeat(`CN=u"x",`, maxText), api.ErrLimit},
	} {
		if n, err := names.Parse(x.s); err != x.want || err != api.OK && len(n) > 0 {
			t.Errorf("%s (%d bytes): error %d, want %d", x.name, len(x.s), err, x.want)
		} else if err == api.OK {
			checkText(t, n)
		}
	}
}

func TestParseOfLongStringsEndsSoon(t *testing.T) {
	start := time.Now()
	for _, part := range []string{`CN=u"x",`, `CN=u"x"+`, "=", ",", "+", "#", `"`, `\`, `\\`, "1.", "1", "CN", "CN=", "1.2=#0500,", "1.2=#0500+", `CN=u"\`, "é"} {
		for _, begin := range []string{"", "CN=", `CN=u"`, "CN=#", "1.2=#0400,"} {
			s := begin + strings.Repeat(part, (maxText-20)/len(part))
			if n, err := names.Parse(s); err != api.ErrForm || len(n) > 0 {
				t.Errorf("Parse(%s): error %d", brief(s), err)
			}
		}
	}
	if took := time.Since(start); took > 30*time.Second {
		t.Errorf("Parse took %v", took)
	}
}

func TestParseOfTextsThatAreChanged(t *testing.T) {
	r := rand.New(rand.NewSource(1405))
	parts := []string{"", `"`, `\`, ",", "+", "=", "#", "0", "5", "c", "f", "u", "p", "v", "CN", "C", "O", "U", "1", "2", ".", " ", "\x00", "\x1f", "\xff", "é", `\0a`, `\"`, "0500", `CN=u"x"`, `=u"`}
	var p parsed
	for _, n := range validNames() {
		s := wantText(n)
		if len(s) > 300 {
			continue
		}
		for range 500 {
			c := s
			for range 1 + r.Intn(2) {
				from := r.Intn(len(c) + 1)
				to := min(len(c), from+r.Intn(3))
				c = c[:from] + parts[r.Intn(len(parts))] + c[to:]
			}
			p.check(t, c)
		}
	}
	p.enough(t, 5000, 20000)
}

// P14.6

// randomName returns a valid name.
func randomName(r *rand.Rand) names.Name {
	types := []string{"2.5.4.3", "2.5.4.6", "2.5.4.7", "2.5.4.8", "2.5.4.10", "2.5.4.11", "2.5.4.5", "1.2.3", "0.9.2342.19200300.100.1.25", "2.999"}
	texts := []string{"", "x", "DE", "A, B", "a+b=c", `"`, `\`, "\n\x01", "é", "\x7f", "#0500", "0a"}
	list := slices.DeleteFunc(values(), func(e api.Element) bool { return elements.Count(e) > 100 })
	for _, text := range texts {
		for _, kind := range charstrings.Kinds(text) {
			list = append(list, word(kind, text))
		}
	}
	var n names.Name
	for range r.Intn(5) {
		var rdn []names.Attribute
		for range 1 + r.Intn(3) {
			rdn = append(rdn, named(types[r.Intn(len(types))], list[r.Intn(len(list))]))
		}
		slices.SortFunc(rdn, func(a, b names.Attribute) int {
			return bytes.Compare(encode(attributeElement(a)), encode(attributeElement(b)))
		})
		n = append(n, slices.CompactFunc(rdn, func(a, b names.Attribute) bool {
			return orderError(attributeElement(a), attributeElement(b)) == api.ErrTwice
		}))
	}
	return n
}

func TestRandomNames(t *testing.T) {
	r := rand.New(rand.NewSource(1406))
	byText, byCode := map[string]names.Name{}, map[string]names.Name{}
	for range 5000 {
		n := randomName(r)
		checkElement(t, n, api.OK)
		checkText(t, n)
		text, _ := names.Text(n)
		code := string(encode(wantElement(n)))
		other, sameText := byText[text]
		_, sameCode := byCode[code]
		if sameText != sameCode || sameText && !names.Same(n, other) {
			t.Fatalf("%s and %s have the same text, or the same element", text, wantText(other))
		}
		byText[text], byCode[code] = n, n
	}
	all := []names.Name{}
	for _, n := range byText {
		all = append(all, n)
	}
	for i, a := range all[:300] {
		for k, b := range all[:300] {
			if names.Same(a, b) != (i == k) {
				t.Fatalf("Same(%s, %s): %v", brief(a), brief(b), i != k)
			}
		}
	}
}

// The examples of the chapter.

func TestExamples(t *testing.T) {
	n := names.Name{
		{attribute(oids.Of(2, 5, 4, 6), word(19, "DE"))},
		{attribute(oids.Of(2, 5, 4, 10), word(12, "A, B"))},
		{attribute(oids.Of(1, 2, 3), null()), attribute(oids.Of(2, 5, 4, 3), word(12, "x"))},
	}
	const want = `C=p"DE",O=u"A, B",1.2.3=#0500+CN=u"x"`
	if s, err := names.Text(n); s != want || err != api.OK {
		t.Errorf("Text: %s, error %d", s, err)
	}
	if back, err := names.Parse(want); !equal(back, n) || err != api.OK {
		t.Errorf("Parse: %v, error %d", back, err)
	}
	for _, s := range []string{`C=p"DE",`, `CN=u"x"+1.2.3=#0500`, `2.5.4.6=p"DE"`, `C=u"D\45"`} {
		if n, err := names.Parse(s); err != api.ErrForm || len(n) > 0 {
			t.Errorf("Parse(%s): %v, error %d", s, n, err)
		}
	}
	if e, err := names.Element(nil); err != api.OK || string(encode(e)) != "\x30\x00" {
		t.Errorf("Element: %v, error %d", e, err)
	}
}

// R4

// asElement returns an element that refers to the memory of the values of a name.
func asElement(n names.Name) api.Element {
	var e api.Element
	for _, rdn := range n {
		for _, a := range rdn {
			e.Subs = append(e.Subs, a.Value)
		}
	}
	e.Subs = slices.Clip(e.Subs)
	return e
}

// hasSpare reports whether a slice of a name has spare capacity.
func hasSpare(n names.Name) bool {
	return cap(n) > len(n) || slices.ContainsFunc(n, func(rdn []names.Attribute) bool { return cap(rdn) > len(rdn) }) || samples.HasSpare(asElement(n))
}

// checkMemory checks that what make returns for an element is new memory.
func checkMemory(t *testing.T, name string, e api.Element, make func(e api.Element) api.Element) {
	t.Helper()
	if flaw := samples.MemoryFlaw(e, make); flaw != "" {
		t.Errorf("%s: %s", name, flaw)
	}
}

func TestResultsAreNewMemory(t *testing.T) {
	part := samples.Seq(samples.Leaf(2, 1, 2, 3), null())
	for _, value := range []api.Element{null(), word(12, "xyz"), samples.Leaf(4, 1, 2, 3, 4, 5), samples.Seq(part, part, samples.Leaf(6)), samples.Repeat(part, 100)} {
		build := func(e api.Element) names.Name {
			return names.Name{{named("1.2.3", e)}, {named("1.2.3", e), named("1.2.4", e), named("1.2.5", e)}, {named("1.2.3", e)}}
		}
		checkMemory(t, "Element", value, func(e api.Element) api.Element {
			e, _ = names.Element(build(e))
			return e
		})
		whole := wantElement(build(value))
		checkMemory(t, "Of", whole, func(e api.Element) api.Element {
			n, _ := names.Of(e)
			if hasSpare(n) {
				t.Error("Of: spare capacity")
			}
			return asElement(n)
		})
		text := wantText(build(value))
		checkMemory(t, "Parse", api.Element{}, func(api.Element) api.Element {
			n, _ := names.Parse(text)
			if hasSpare(n) {
				t.Error("Parse: spare capacity")
			}
			return asElement(n)
		})
	}
}

func TestNamesShareNoMemory(t *testing.T) {
	text := wantText(names.Name{many(3), many(2), {common("x")}})
	e := wantElement(names.Name{many(3), many(2), {common("x")}})
	for i, make := range []func() names.Name{
		func() names.Name { n, _ := names.Parse(text); return n },
		func() names.Name { n, _ := names.Of(e); return n },
	} {
		first, second := make(), make()
		want := wantText(second)
		for k := range first {
			for l := range first[k] {
				first[k][l] = names.Attribute{}
			}
			if k+1 < len(first) && wantText(first[k+1:]) != wantText(second[k+1:]) {
				t.Errorf("%d: parts share memory", i)
			}
			first[k] = nil
		}
		if wantText(second) != want || wantText(make()) != want {
			t.Errorf("%d: results share memory", i)
		}
	}
}

func TestPathsAreNewMemory(t *testing.T) {
	id := samples.Leaf(6, 0x2a, 3)
	ok := samples.Seq(id, null())
	for _, e := range []api.Element{
		samples.Repeat(samples.Set(ok), 17),
		samples.Seq(samples.Set()),
		samples.Seq(samples.Set(null())),
		samples.Seq(samples.Set(samples.Seq(null()))),
		samples.Seq(samples.Set(samples.Seq(id, id, id))),
		samples.Seq(samples.Set(samples.Seq(samples.Leaf(6), null()))),
		samples.Seq(samples.Set(ok, ok)),
	} {
		flaw := samples.PathFlaw(func() fields.Fault { _, f := names.Of(e); return f })
		if flaw != "" {
			t.Errorf("%v: %s", e, flaw)
		}
	}
}

func TestArgumentsAreNotChanged(t *testing.T) {
	build := func() names.Name {
		return names.Name{{named("1.2.3", samples.Seq(samples.Leaf(2, 1), null())), named("1.2.4", samples.Leaf(4, make([]byte, 100)...))}, {common("x")}}
	}
	n := build()
	n = append(make(names.Name, 0, 10), n...)
	names.Check(n)
	names.Element(n)
	names.Same(n, n)
	names.Text(n)
	if !equal(n, build()) || n[:3][2] != nil {
		t.Errorf("the name is changed: %v", n)
	}
	e := wantElement(build())
	names.Of(e)
	if !samples.Equal(e, wantElement(build())) {
		t.Errorf("the element is changed: %v", e)
	}
}
