package algorithms_test

import (
	"bytes"
	"crypto/ecdsa"
	"crypto/ed25519"
	"crypto/elliptic"
	"crypto/rsa"
	"crypto/x509"
	"crypto/x509/pkix"
	"encoding/asn1"
	"math"
	"math/big"
	"math/rand"
	"slices"
	"testing"

	"vidimus/algorithms"
	"vidimus/api"
	"vidimus/elements"
	"vidimus/fields"
	"vidimus/oids"
	"vidimus/samples"
)

// The limits of the document.
const (
	maxBits   = 8 * 65536
	maxLevels = 1 << 16
)

// The tags of the chapter.
var (
	sequence = api.Tag{Constructed: true, Number: 16}
	set      = api.Tag{Constructed: true, Number: 17}
	idTag    = api.Tag{Number: 6}
	bitsTag  = api.Tag{Number: 3}
)

func null() api.Element { return samples.Leaf(5) }

func tagged(t api.Tag) api.Element { return api.Element{Tag: t} }

// idOctets returns the content octets of a valid OID as package asn1 has them.
func idOctets(t *testing.T, o api.OID) []byte {
	t.Helper()
	b, err := asn1.Marshal(objectID(o))
	if err != nil {
		t.Fatal(err)
	}
	return b[2:]
}

// objectID returns a valid OID as package asn1 has it.
func objectID(o api.OID) asn1.ObjectIdentifier {
	var id asn1.ObjectIdentifier
	for _, arc := range o.Arcs[:o.N] {
		id = append(id, int(arc))
	}
	return id
}

// params is whether there are parameters, and what they are; and the error that they are.
type params struct {
	name string
	has  bool
	e    api.Element
	err  api.Errno
}

// goodParams lists what valid algorithms have, each one new.
func goodParams() []params {
	return []params{
		{"none", false, api.Element{}, api.OK},
		{"NULL", true, null(), api.OK},
		{"a curve", true, samples.Leaf(6, 0x2a, 0x86, 0x48, 0xce, 0x3d, 3, 1, 7), api.OK},
		{"an OID that is none", true, samples.Leaf(6, 0x80), api.OK},
		{"bits", true, samples.Leaf(3, 9), api.OK},
		{"an empty SEQUENCE", true, samples.Seq(), api.OK},
		{"a SEQUENCE", true, samples.Seq(null(), samples.Leaf(2, 1, 2, 3), samples.Seq(null())), api.OK},
		{"a SET", true, api.Element{Tag: set, Subs: []api.Element{null()}}, api.OK},
		{"a constructed NULL", true, tagged(api.Tag{Constructed: true, Number: 5}), api.OK},
		{"context-specific, number 0", true, tagged(api.Tag{Class: api.Context}), api.OK},
		{"context-specific, with bytes", true, api.Element{Tag: api.Tag{Class: api.Context, Number: 1000}, Bytes: []byte{0, 0xff}}, api.OK},
		{"private", true, api.Element{Tag: api.Tag{Class: api.Private, Constructed: true, Number: 1}, Subs: []api.Element{samples.Leaf(1, 1)}}, api.OK},
		{"200 bytes", true, samples.Leaf(4, make([]byte, 200)...), api.OK},
		{"2^20 bytes", true, samples.Leaf(4, make([]byte, 1<<20)...), api.OK}, // too large to be encoded
		{"14 levels", true, samples.Nest(null(), 13), api.OK},
		{"8188 elements", true, samples.Repeat(null(), 8187), api.OK},
	}
}

// largeParams lists what valid algorithms have that are in no valid key; err is the error of the key.
func largeParams() []params {
	return []params{
		{"15 levels", true, samples.Nest(null(), 14), api.ErrDepth},
		{"8189 elements", true, samples.Repeat(null(), 8188), api.ErrLimit},
		{"8190 elements", true, samples.Repeat(null(), 8189), api.ErrLimit},
		{"15 levels in the last one of 8190 elements", true, samples.Repeat(null(), 8175, samples.Nest(null(), 13)), api.ErrDepth},
		{"15 levels in the first one of 8190 elements", true, samples.Seq(append([]api.Element{samples.Nest(null(), 13)}, samples.Repeat(null(), 8175).Subs...)...), api.ErrDepth},
	}
}

// badParams lists what no valid algorithm has.
func badParams() []params {
	list := []params{
		{"zero", true, api.Element{}, api.ErrTag},
		{"no class", true, tagged(api.Tag{Class: 4, Number: 5}), api.ErrArg},
		{"a primitive SEQUENCE", true, tagged(api.Tag{Number: 16}), api.ErrTag},
		{"a primitive SET", true, tagged(api.Tag{Number: 17}), api.ErrTag},
		{"Subs in a primitive element", true, api.Element{Tag: bitsTag, Subs: []api.Element{null()}}, api.ErrArg},
		{"Bytes in a SEQUENCE", true, api.Element{Tag: sequence, Bytes: []byte{1}}, api.ErrArg},
		{"an invalid element within", true, samples.Seq(null(), samples.Seq(null(), api.Element{})), api.ErrTag},
		{"16 levels", true, samples.Nest(null(), 15), api.ErrDepth},
		{"17 levels", true, samples.Nest(null(), 16), api.ErrDepth},
		{"100 levels", true, samples.Nest(null(), 99), api.ErrDepth},
		{"8191 elements", true, samples.Repeat(null(), 8190), api.ErrLimit},
		{"10000 elements", true, samples.Repeat(null(), 9999), api.ErrLimit},
		{"16 levels before 9000 elements", true, samples.Seq(samples.Nest(null(), 14), samples.Repeat(null(), 9000)), api.ErrDepth},
		{"9000 elements before 16 levels", true, samples.Seq(samples.Repeat(null(), 9000), samples.Nest(null(), 14)), api.ErrLimit},

		{"a class, and Has not set", false, tagged(api.Tag{Class: 1}), api.ErrArg},
		{"constructed, and Has not set", false, tagged(api.Tag{Constructed: true}), api.ErrArg},
		{"NULL, and Has not set", false, null(), api.ErrArg},
		{"Bytes, and Has not set", false, api.Element{Bytes: []byte{0}}, api.ErrArg},
		{"Subs, and Has not set", false, api.Element{Subs: []api.Element{{}}}, api.ErrArg},
		{"all of it, and Has not set", false, samples.Nest(samples.Leaf(2, 1), 40), api.ErrArg},
		{"10000 elements, and Has not set", false, samples.Repeat(null(), 9999), api.ErrArg},
	}
	for _, e := range samples.Cyclic() {
		list = append(list, params{"an element that contains itself", true, e, api.ErrDepth}, params{"an element that contains itself, and Has not set", false, e, api.ErrArg})
	}
	return list
}

// algorithm returns an algorithm with parameters.
func algorithm(id api.OID, p params) algorithms.Algorithm {
	return algorithms.Algorithm{ID: id, Has: p.has, Params: p.e}
}

// validAlgorithms lists algorithms of valid keys, each one new.
func validAlgorithms() []algorithms.Algorithm {
	var list []algorithms.Algorithm
	for _, id := range samples.OIDs() {
		for _, p := range goodParams() {
			list = append(list, algorithm(id, p))
		}
	}
	return list
}

// equal compares algorithms as the document does.
func equal(a, b algorithms.Algorithm) bool {
	return a.ID == b.ID && a.Has == b.Has && samples.Equal(a.Params, b.Params)
}

// equalKeys compares keys as the document does.
func equalKeys(a, b algorithms.Key) bool {
	return equal(a.Algorithm, b.Algorithm) && bytes.Equal(a.Bits, b.Bits) && a.N == b.N
}

// P13.1

// checkNone checks that an algorithm has an error, and no element.
func checkNone(t *testing.T, name string, a algorithms.Algorithm, want api.Errno) {
	t.Helper()
	if err := algorithms.Check(a); err != want {
		t.Errorf("%v, %s: Check: error %d, want %d", a.ID, name, err, want)
	}
	if e, err := algorithms.Element(a); err != want || !samples.IsZero(e) {
		t.Errorf("%v, %s: Element: %v, error %d, want %d", a.ID, name, e.Tag, err, want)
	}
}

// checkSome checks the element of an algorithm, and that it is the algorithm's only one. (P13.1, P13.2, P13.6)
func checkSome(t *testing.T, name string, a algorithms.Algorithm) {
	t.Helper()
	want := samples.Seq(samples.Leaf(6, idOctets(t, a.ID)...))
	if a.Has {
		want.Subs = append(want.Subs, a.Params)
	}
	if err := algorithms.Check(a); err != api.OK {
		t.Errorf("%v, %s: Check: error %d", a.ID, name, err)
	}
	e, err := algorithms.Element(a)
	if err != api.OK || !samples.Equal(e, want) {
		t.Errorf("%v, %s: Element: error %d", a.ID, name, err)
	}
	if back, f := algorithms.Of(e); !samples.IsFault(f, api.OK) || !equal(back, a) {
		t.Errorf("%v, %s: Of: %v", a.ID, name, f)
	}
}

func TestElement(t *testing.T) {
	for _, id := range samples.OIDs() {
		for _, p := range append(goodParams(), largeParams()...) {
			checkSome(t, p.name, algorithm(id, p))
		}
		// Parameters that are none may be empty slices.
		checkSome(t, "empty slices", algorithms.Algorithm{ID: id, Params: api.Element{Bytes: []byte{}, Subs: []api.Element{}}})
		checkSome(t, "empty Subs", algorithms.Algorithm{ID: id, Has: true, Params: api.Element{Tag: api.Tag{Number: 5}, Subs: []api.Element{}}})
	}
}

func TestElementErrors(t *testing.T) {
	for _, p := range badParams() {
		for _, id := range samples.OIDs() {
			checkNone(t, p.name, algorithm(id, p), p.err)
		}
	}
	// The error of the ID comes first.
	for _, p := range slices.Concat(goodParams(), largeParams(), badParams()) {
		for _, id := range samples.NoOIDs() {
			checkNone(t, p.name, algorithm(id, p), api.ErrArg)
		}
	}
}

// encode returns the encoding of an element of at most 2^20 bytes; nil of a larger one.
func encode(t *testing.T, e api.Element) []byte {
	t.Helper()
	b, err := elements.Put(e)
	if err != api.OK && err != api.ErrLimit {
		t.Fatalf("an element has the error %d", err)
	}
	return b
}

// identifier returns an algorithm as package pkix has it.
func identifier(t *testing.T, a algorithms.Algorithm) pkix.AlgorithmIdentifier {
	t.Helper()
	x := pkix.AlgorithmIdentifier{Algorithm: objectID(a.ID)}
	if a.Has {
		x.Parameters.FullBytes = encode(t, a.Params)
	}
	return x
}

func TestElementIsThatOfPackagePkix(t *testing.T) {
	for _, a := range validAlgorithms() {
		e, _ := algorithms.Element(a)
		b := encode(t, e)
		want, err := asn1.Marshal(identifier(t, a))
		if err != nil || b != nil && !bytes.Equal(b, want) {
			t.Errorf("%v: %x, want %x, %v", a, b, want, err)
		}
	}
}

// P13.2

// wantOf is Of after the chapter.
func wantOf(e api.Element) (algorithms.Algorithm, fields.Fault) {
	check := elements.Check(e)
	id, err := oids.Get(samples.Sub(e, 0).Bytes)
	count := len(e.Subs)
	f := samples.FirstFault(
		samples.If(check != api.OK, check),
		samples.If(e.Tag != sequence, api.ErrTag),
		samples.If(count == 0, api.ErrShort),
		samples.If(samples.Sub(e, 0).Tag != idTag, api.ErrTag, 0),
		samples.If(count > 2, api.ErrTrail, 2),
		samples.If(err != api.OK, err, 0),
	)
	if f.E != api.OK {
		return algorithms.Algorithm{}, f
	}
	return algorithms.Algorithm{ID: id, Has: count == 2, Params: samples.Sub(e, 1)}, f
}

// checkOf compares Of with the chapter. (P13.2, P13.6)
func checkOf(t *testing.T, e api.Element) {
	t.Helper()
	want, fault := wantOf(e)
	a, f := algorithms.Of(e)
	if !samples.IsFault(f, fault.E, fault.Path...) || !equal(a, want) {
		t.Fatalf("Of(%v): %v, %v, want %v, %v", e, a, f, want, fault)
	}
	if f.E != api.OK {
		return
	}
	if back, err := algorithms.Element(a); err != api.OK || !samples.Equal(back, e) {
		t.Fatalf("Element of Of(%v): %v, error %d", e, back, err)
	}
}

// alphabet lists elements of which lists are made: right and wrong parts of algorithms and keys.
func alphabet() []api.Element {
	id := samples.Leaf(6, 0x2a, 3)
	return []api.Element{
		id,
		samples.Leaf(6),
		samples.Leaf(6, 0x80, 1),
		samples.Leaf(6, 0x2a, 0x86),
		samples.Leaf(6, 1, 1, 1, 1, 1, 1, 1, 1, 1, 1, 1, 1, 1, 1, 1, 1),
		samples.Leaf(6, 0x90, 0x80, 0x80, 0x80, 0),
		{Tag: api.Tag{Constructed: true, Number: 6}, Subs: []api.Element{null()}},
		{Tag: api.Tag{Class: api.Context, Number: 6}, Bytes: []byte{0x2a, 3}},
		{Tag: idTag, Bytes: []byte{0x2a, 3}, Subs: []api.Element{null()}},
		{Tag: idTag, Bytes: []byte{0x2a, 3}, Subs: []api.Element{}},
		null(),
		{},
		samples.Leaf(3, 5, 0xa0),
		samples.Leaf(3, 0),
		samples.Leaf(3),
		samples.Leaf(3, 8, 0),
		samples.Leaf(3, 1, 1),
		{Tag: api.Tag{Constructed: true, Number: 3}, Subs: []api.Element{samples.Leaf(3, 0)}},
		{Tag: api.Tag{Class: api.Context, Number: 3}, Bytes: []byte{0}},
		{Tag: bitsTag, Bytes: []byte{0}, Subs: []api.Element{null()}},
		samples.Seq(),
		samples.Seq(id),
		samples.Seq(id, null()),
		samples.Seq(id, samples.Seq(id, null())),
		samples.Seq(id, id, id),
		samples.Seq(null(), id),
		samples.Seq(samples.Leaf(6), null()),
		samples.Seq(samples.Leaf(6, 0x80, 1), null(), null()),
		samples.Seq(id, api.Element{}),
		{Tag: set, Subs: []api.Element{id, null()}},
		{Tag: api.Tag{Class: api.Context, Constructed: true, Number: 16}, Subs: []api.Element{id, null()}},
	}
}

func TestOfAllShortLists(t *testing.T) {
	samples.Lists(alphabet(), 3, func(l []api.Element) { checkOf(t, samples.Seq(l...)) })
	for _, tag := range samples.Tags() {
		samples.Lists(alphabet(), 2, func(l []api.Element) { checkOf(t, api.Element{Tag: tag, Subs: l}) })
		checkOf(t, api.Element{Tag: tag, Bytes: []byte{0x2a, 3}})
	}
}

func TestOfOrderOfFaults(t *testing.T) {
	id, other, wrong := samples.Leaf(6, 0x2a, 3), samples.Leaf(2, 1), samples.Leaf(6, 0x80, 1)
	for _, x := range []struct {
		name string
		e    api.Element
		err  api.Errno
		path []int
	}{
		{"an invalid element before the tag", api.Element{Tag: set, Subs: []api.Element{id, {Tag: api.Tag{Class: 4}}}}, api.ErrArg, nil},
		{"an invalid element before no OID", samples.Seq(other, api.Element{Tag: sequence, Bytes: []byte{1}}), api.ErrArg, nil},
		{"an invalid element at the end", samples.Seq(other, other, other, samples.Nest(null(), 15)), api.ErrDepth, nil},
		{"too many elements", samples.Repeat(wrong, 8192), api.ErrLimit, nil},
		{"many elements", samples.Repeat(wrong, 8191), api.ErrTrail, []int{2}},
		{"the tag before the number", tagged(set), api.ErrTag, nil},
		{"the tag before the ID", api.Element{Tag: set, Subs: []api.Element{other}}, api.ErrTag, nil},
		{"nothing", samples.Seq(), api.ErrShort, nil},
		{"the first element before the third one", samples.Seq(other, id, id), api.ErrTag, []int{0}},
		{"the third element before the ID", samples.Seq(wrong, id, id), api.ErrTrail, []int{2}},
		{"the third element before the fourth one", samples.Seq(id, id, id, id), api.ErrTrail, []int{2}},
		{"the octet 80", samples.Seq(wrong, other), api.ErrValue, []int{0}},
		{"no octet", samples.Seq(samples.Leaf(6)), api.ErrShort, []int{0}},
		{"sixteen octets", samples.Seq(samples.Leaf(6, make([]byte, 16)...)), api.ErrLimit, []int{0}},
		{"fifteen octets", samples.Seq(samples.Leaf(6, make([]byte, 15)...)), api.OK, nil},
		{"a constructed OID", samples.Seq(api.Element{Tag: api.Tag{Constructed: true, Number: 6}}), api.ErrTag, []int{0}},
		{"a primitive SEQUENCE", api.Element{Tag: api.Tag{Number: 16}, Bytes: []byte{6, 2, 0x2a, 3}}, api.ErrTag, nil},
	} {
		if a, f := algorithms.Of(x.e); !samples.IsFault(f, x.err, x.path...) || f.E != api.OK && !equal(a, algorithms.Algorithm{}) {
			t.Errorf("%s: %v, %v", x.name, a, f)
		}
		checkOf(t, x.e)
	}
	for i, e := range samples.Cyclic() {
		for _, x := range []api.Element{e, samples.Seq(id, e), samples.Seq(other, id, id, e)} {
			if a, f := algorithms.Of(x); !samples.IsFault(f, api.ErrDepth) || !equal(a, algorithms.Algorithm{}) {
				t.Errorf("element %d, which contains itself: %v", i, f)
			}
		}
	}
}

func TestOfKeepsAllParameters(t *testing.T) {
	id := samples.Leaf(6, 0x2a, 3)
	for _, p := range slices.Concat(goodParams(), largeParams(), badParams()) {
		checkFinite(t, checkOf, id, p.e)
	}
	for _, tag := range samples.Tags() {
		checkOf(t, samples.Seq(id, tagged(tag)))
	}
}

func TestParametersThatAreTooLargeToBeCopied(t *testing.T) {
	// They are valid, but have 2^31 bytes, of which rule R8 promises nothing; no such memory is asked for.
	e := samples.Seq(samples.Leaf(6, 0x2a, 3), samples.Repeat(samples.Leaf(4, make([]byte, 1<<20)...), 1<<11))
	if a, f := algorithms.Of(e); !samples.IsFault(f, api.ErrLimit, 1) || !equal(a, algorithms.Algorithm{}) {
		t.Errorf("Of: %v", f)
	}
	if k, f := algorithms.KeyOf(samples.Seq(e, samples.Leaf(3, 0))); !samples.IsFault(f, api.ErrLimit, 0, 1) || !equalKeys(k, algorithms.Key{}) {
		t.Errorf("KeyOf: %v", f)
	}
	a := algorithms.Algorithm{ID: samples.Arcs(3, 1, 2, 3), Has: true, Params: e.Subs[1]}
	if got, err := algorithms.Element(a); err != api.ErrLimit || !samples.IsZero(got) || algorithms.Check(a) != api.OK {
		t.Errorf("Element: error %d", err)
	}
	k := algorithms.Key{Algorithm: a}
	if got, err := algorithms.KeyElement(k); err != api.ErrLimit || !samples.IsZero(got) || algorithms.CheckKey(k) != api.OK {
		t.Errorf("KeyElement: error %d", err)
	}
}

// checkFinite calls check with a SEQUENCE of elements, unless it contains itself.
func checkFinite(t *testing.T, check func(*testing.T, api.Element), l ...api.Element) {
	t.Helper()
	if _, err := fields.At(samples.Seq(l...), nil); err == api.OK {
		check(t, samples.Seq(l...))
	}
}

// P13.3

// bits are bytes with a number of bits, and the error that they are.
type bits struct {
	b   []byte
	n   int
	err api.Errno
}

// goodBits lists bit strings, each one new.
func goodBits() []bits {
	list := []bits{{nil, 0, api.OK}, {[]byte{}, 0, api.OK}, {[]byte{4, 1, 2}, 24, api.OK}, {make([]byte, 65536), maxBits, api.OK}, {make([]byte, 65536), maxBits - 7, api.OK}}
	for n := 1; n <= 8; n++ {
		list = append(list, bits{[]byte{0x80}, n, api.OK}, bits{[]byte{0xff << (8 - n)}, n, api.OK}, bits{[]byte{0xff, 0}, 8 + n, api.OK})
	}
	return list
}

func badBits() []bits {
	list := []bits{
		{nil, math.MinInt, api.ErrArg},
		{nil, -1, api.ErrArg},
		{[]byte{0}, -1, api.ErrArg},
		{[]byte{0}, -8, api.ErrArg},
		{nil, 1, api.ErrArg},
		{[]byte{0}, 0, api.ErrArg},
		{[]byte{0, 0}, 8, api.ErrArg},
		{[]byte{0}, 9, api.ErrArg},
		{make([]byte, 65535), maxBits, api.ErrArg},
		{make([]byte, 65537), maxBits, api.ErrArg},
		{make([]byte, 65537), maxBits + 1, api.ErrLimit},
		{make([]byte, 65537), maxBits + 8, api.ErrLimit},
		{nil, maxBits + 1, api.ErrLimit},
		{nil, math.MaxInt, api.ErrLimit},
	}
	for n := 1; n < 8; n++ {
		list = append(list, bits{[]byte{1}, n, api.ErrArg}, bits{[]byte{1 << (7 - n)}, n, api.ErrArg}, bits{[]byte{0, 0xff}, 8 + n, api.ErrArg})
	}
	return list
}

// key returns a key with an algorithm and bits.
func key(a algorithms.Algorithm, x bits) algorithms.Key {
	return algorithms.Key{Algorithm: a, Bits: x.b, N: x.n}
}

// validKeys lists keys, each one new.
func validKeys() []algorithms.Key {
	var list []algorithms.Key
	for i, a := range validAlgorithms() {
		for k, x := range goodBits() {
			if i%7 == k%7 {
				list = append(list, key(a, x))
			}
		}
	}
	return list
}

// checkNoKey checks that a key has an error, and no element.
func checkNoKey(t *testing.T, name string, k algorithms.Key, want api.Errno) {
	t.Helper()
	if err := algorithms.CheckKey(k); err != want {
		t.Errorf("%v, %s, %d bits: CheckKey: error %d, want %d", k.Algorithm.ID, name, k.N, err, want)
	}
	if e, err := algorithms.KeyElement(k); err != want || !samples.IsZero(e) {
		t.Errorf("%v, %s, %d bits: KeyElement: %v, error %d, want %d", k.Algorithm.ID, name, k.N, e.Tag, err, want)
	}
}

func TestKeyElement(t *testing.T) {
	for _, k := range validKeys() {
		if err := algorithms.CheckKey(k); err != api.OK {
			t.Fatalf("CheckKey: error %d", err)
		}
		e, err := algorithms.KeyElement(k)
		a, _ := algorithms.Element(k.Algorithm)
		want := samples.Seq(a, samples.Leaf(3, append([]byte{byte(8*len(k.Bits) - k.N)}, k.Bits...)...))
		if err != api.OK || !samples.Equal(e, want) {
			t.Fatalf("KeyElement: error %d", err)
		}
		if back, f := algorithms.KeyOf(e); !samples.IsFault(f, api.OK) || !equalKeys(back, k) {
			t.Fatalf("KeyOf: %v", f)
		}
	}
}

// publicKey is a key as package asn1 has it.
type publicKey struct {
	Algorithm pkix.AlgorithmIdentifier
	Bits      asn1.BitString
}

func TestKeyElementIsThatOfPackageAsn1(t *testing.T) {
	for _, k := range validKeys() {
		e, _ := algorithms.KeyElement(k)
		b := encode(t, e)
		want, err := asn1.Marshal(publicKey{identifier(t, k.Algorithm), asn1.BitString{Bytes: k.Bits, BitLength: k.N}})
		if err != nil || b != nil && !bytes.Equal(b, want) {
			t.Errorf("%v: %x, want %x, %v", k, b, want, err)
		}
	}
}

func TestKeyElementErrors(t *testing.T) {
	id := samples.OIDs()[0]
	for _, p := range goodParams() {
		for _, x := range badBits() {
			checkNoKey(t, p.name, key(algorithm(id, p), x), x.err)
		}
	}
	// The error of the algorithm comes before that of the bits, and this one before that of the whole.
	for _, x := range append(goodBits(), badBits()...) {
		for _, p := range badParams() {
			checkNoKey(t, p.name, key(algorithm(id, p), x), p.err)
		}
		for _, id := range samples.NoOIDs() {
			checkNoKey(t, "an invalid ID", key(algorithm(id, goodParams()[1]), x), api.ErrArg)
		}
		for _, p := range largeParams() {
			want := p.err
			if x.err != api.OK {
				want = x.err
			}
			checkNoKey(t, p.name, key(algorithm(id, p), x), want)
		}
	}
}

// P13.4

// wantKeyOf is KeyOf after the chapter.
func wantKeyOf(e api.Element) (algorithms.Key, fields.Fault) {
	check := elements.Check(e)
	a, inner := wantOf(samples.Sub(e, 0))
	content := samples.Sub(e, 1).Bytes
	b, err := readBits(content)
	count := len(e.Subs)
	f := samples.FirstFault(
		samples.If(check != api.OK, check),
		samples.If(e.Tag != sequence, api.ErrTag),
		samples.If(count == 0, api.ErrShort),
		samples.If(samples.Sub(e, 0).Tag != sequence, api.ErrTag, 0),
		samples.If(count == 1, api.ErrShort),
		samples.If(samples.Sub(e, 1).Tag != bitsTag, api.ErrTag, 1),
		samples.If(count > 2, api.ErrTrail, 2),
		samples.If(inner.E != api.OK, inner.E, append([]int{0}, inner.Path...)...),
		samples.If(err != api.OK, err, 1),
	)
	if f.E != api.OK {
		return algorithms.Key{}, f
	}
	return key(a, b), f
}

// readBits reads the content octets of a bit string.
func readBits(c []byte) (bits, api.Errno) {
	if len(c) == 0 || c[0] > 7 {
		return bits{}, api.ErrValue
	}
	n := 8*(len(c)-1) - int(c[0])
	if n < 0 || c[len(c)-1]&(1<<c[0]-1) != 0 && c[0] > 0 {
		return bits{}, api.ErrValue
	}
	if n > maxBits {
		return bits{}, api.ErrLimit
	}
	return bits{b: c[1:], n: n}, api.OK
}

// checkKeyOf compares KeyOf with the chapter. (P13.4, P13.6)
func checkKeyOf(t *testing.T, e api.Element) {
	t.Helper()
	want, fault := wantKeyOf(e)
	k, f := algorithms.KeyOf(e)
	if !samples.IsFault(f, fault.E, fault.Path...) || !equalKeys(k, want) {
		t.Fatalf("KeyOf(%v): %v, %v, want %v, %v", e, k, f, want, fault)
	}
	if f.E != api.OK {
		return
	}
	if back, err := algorithms.KeyElement(k); err != api.OK || !samples.Equal(back, e) {
		t.Fatalf("KeyElement of KeyOf(%v): %v, error %d", e, back, err)
	}
}

func TestKeyOfAllShortLists(t *testing.T) {
	samples.Lists(alphabet(), 3, func(l []api.Element) { checkKeyOf(t, samples.Seq(l...)) })
	for _, tag := range samples.Tags() {
		samples.Lists(alphabet(), 2, func(l []api.Element) { checkKeyOf(t, api.Element{Tag: tag, Subs: l}) })
	}
	right := samples.Leaf(3, 5, 0xa0)
	samples.Lists(alphabet(), 3, func(l []api.Element) {
		checkKeyOf(t, samples.Seq(samples.Seq(l...), right))
		checkKeyOf(t, samples.Seq(samples.Seq(l...), null()))
	})
}

func TestKeyOfOrderOfFaults(t *testing.T) {
	id, wrongID := samples.Leaf(6, 0x2a, 3), samples.Leaf(6, 0x80, 1)
	a, b, wrongBits := samples.Seq(id, null()), samples.Leaf(3, 0, 1), samples.Leaf(3, 8, 1)
	for _, x := range []struct {
		name string
		e    api.Element
		err  api.Errno
		path []int
	}{
		{"an invalid element before the tag", api.Element{Tag: set, Subs: []api.Element{a, b, {}}}, api.ErrTag, nil},
		{"an invalid element at the end", samples.Seq(null(), null(), samples.Nest(null(), 15)), api.ErrDepth, nil},
		{"an invalid element in the algorithm", samples.Seq(samples.Seq(wrongID, api.Element{Tag: sequence, Bytes: []byte{1}}), wrongBits), api.ErrArg, nil},
		{"15 levels of parameters", samples.Seq(samples.Seq(id, samples.Nest(null(), 14)), b), api.ErrDepth, nil},
		{"14 levels of parameters", samples.Seq(samples.Seq(id, samples.Nest(null(), 13)), b), api.OK, nil},
		{"8189 elements of parameters", samples.Seq(samples.Seq(id, samples.Repeat(null(), 8188)), b), api.ErrLimit, nil},
		{"8188 elements of parameters", samples.Seq(samples.Seq(id, samples.Repeat(null(), 8187)), b), api.OK, nil},
		{"the tag before the parts", api.Element{Tag: set, Subs: []api.Element{b}}, api.ErrTag, nil},
		{"nothing", samples.Seq(), api.ErrShort, nil},
		{"the first part before the end", samples.Seq(b), api.ErrTag, []int{0}},
		{"the first part is a SET", samples.Seq(api.Element{Tag: set, Subs: a.Subs}, b), api.ErrTag, []int{0}},
		{"the end before the fault of the algorithm", samples.Seq(samples.Seq()), api.ErrShort, nil},
		{"the second part before the fault of the algorithm", samples.Seq(samples.Seq(), a), api.ErrTag, []int{1}},
		{"the third part before the fault of the algorithm", samples.Seq(samples.Seq(), b, b), api.ErrTrail, []int{2}},
		{"the third part before the fault of the bits", samples.Seq(a, wrongBits, a), api.ErrTrail, []int{2}},
		{"the algorithm before the bits", samples.Seq(samples.Seq(id, id, id), wrongBits), api.ErrTrail, []int{0, 2}},
		{"an empty algorithm", samples.Seq(samples.Seq(), b), api.ErrShort, []int{0}},
		{"an algorithm without ID", samples.Seq(samples.Seq(null(), id), b), api.ErrTag, []int{0, 0}},
		{"a wrong ID", samples.Seq(samples.Seq(wrongID), wrongBits), api.ErrValue, []int{0, 0}},
		{"an ID without octets", samples.Seq(samples.Seq(samples.Leaf(6)), b), api.ErrShort, []int{0, 0}},
		{"wrong bits", samples.Seq(a, wrongBits), api.ErrValue, []int{1}},
		{"bits without octets", samples.Seq(a, samples.Leaf(3)), api.ErrValue, []int{1}},
		{"65536 bytes of bits", samples.Seq(a, samples.Leaf(3, make([]byte, 65537)...)), api.OK, nil},
		{"65537 bytes of bits", samples.Seq(a, samples.Leaf(3, make([]byte, 65538)...)), api.ErrLimit, []int{1}},
		{"a constructed BIT STRING", samples.Seq(a, api.Element{Tag: api.Tag{Constructed: true, Number: 3}, Subs: []api.Element{b}}), api.ErrTag, []int{1}},
	} {
		if k, f := algorithms.KeyOf(x.e); !samples.IsFault(f, x.err, x.path...) || f.E != api.OK && !equalKeys(k, algorithms.Key{}) {
			t.Errorf("%s: %v, %v", x.name, k, f)
		}
		checkKeyOf(t, x.e)
	}
	for i, e := range samples.Cyclic() {
		for _, x := range []api.Element{e, samples.Seq(a, b, e), samples.Seq(samples.Seq(id, e), b)} {
			if k, f := algorithms.KeyOf(x); !samples.IsFault(f, api.ErrDepth) || !equalKeys(k, algorithms.Key{}) {
				t.Errorf("element %d, which contains itself: %v", i, f)
			}
		}
	}
}

// realKeys lists the encodings of public keys that package x509 writes.
func realKeys(t *testing.T) [][]byte {
	t.Helper()
	curve := elliptic.P384().Params()
	var list [][]byte
	for _, pub := range []any{
		&rsa.PublicKey{N: new(big.Int).Lsh(big.NewInt(12345), 2040), E: 65537},
		&ecdsa.PublicKey{Curve: elliptic.P384(), X: curve.Gx, Y: curve.Gy},
		ed25519.NewKeyFromSeed(make([]byte, 32)).Public(),
	} {
		b, err := x509.MarshalPKIXPublicKey(pub)
		if err != nil {
			t.Fatal(err)
		}
		list = append(list, b)
	}
	return list
}

func TestKeysOfPackageX509(t *testing.T) {
	want := []struct {
		id  string
		has bool
		tag uint32
		n   int
	}{{"1.2.840.113549.1.1.1", true, 5, 8 * (4 + 261 + 1 + 5)}, {"1.2.840.10045.2.1", true, 6, 8 * 97}, {"1.3.101.112", false, 0, 8 * 32}}
	for i, b := range realKeys(t) {
		e, _, _ := elements.Get(b)
		k, f := algorithms.KeyOf(e)
		var x publicKey
		if _, err := asn1.Unmarshal(b, &x); err != nil || f.E != api.OK {
			t.Fatalf("key %d: %v, %v", i, f, err)
		}
		a := k.Algorithm
		if oids.Text(a.ID) != want[i].id || a.Has != want[i].has || a.Params.Tag.Number != want[i].tag || !bytes.Equal(k.Bits, x.Bits.Bytes) || k.N != x.Bits.BitLength {
			t.Errorf("key %d: %v", i, k)
		}
		back, err := algorithms.KeyElement(k)
		if !bytes.Equal(encode(t, back), b) {
			t.Errorf("key %d: KeyElement: error %d", i, err)
		}
	}
}

func TestKeysThatAreChanged(t *testing.T) {
	r := rand.New(rand.NewSource(13))
	read := 0
	for _, b := range append(realKeys(t), []byte{0x30, 10, 0x30, 4, 6, 2, 0x2a, 3, 3, 2, 5, 0xa0}) {
		for range 20000 {
			c := bytes.Clone(b[:min(len(b), 64)])
			c = append(c, b[len(c):]...)
			for range 1 + r.Intn(2) {
				c[r.Intn(min(len(c), 30))] = []byte{0, 1, 2, 3, 5, 6, 0x30, 0x31, 0x80, 0xa0, byte(r.Intn(256))}[r.Intn(11)]
			}
			e, _, err := elements.Get(c)
			if err != api.OK {
				continue
			}
			read++
			checkKeyOf(t, e)
			checkOf(t, samples.Sub(e, 0))
		}
	}
	if read < 1000 {
		t.Errorf("only %d changed keys are elements", read)
	}
}

// P13.5

// distinct lists algorithms of which no two are equal, each one new.
func distinct() []algorithms.Algorithm {
	list := []algorithms.Algorithm{{}}
	for i, id := range slices.Concat(samples.OIDs(), samples.NoOIDs()[1:]) {
		for _, p := range append(goodParams(), badParams()...) {
			if i == 0 || !p.has || len(p.e.Subs) < 100 {
				list = append(list, algorithm(id, p))
			}
		}
	}
	list = slices.DeleteFunc(list, func(a algorithms.Algorithm) bool {
		_, err := fields.At(a.Params, nil)
		return err != api.OK
	})
	for i := range api.MaxArcs {
		o := samples.Arcs(3, 1, 2, 3)
		o.Arcs[i] += 1 << 31
		list = append(list, algorithms.Algorithm{ID: o})
	}
	return list
}

func TestSame(t *testing.T) {
	list, again := distinct(), distinct()
	for i, a := range list {
		for k, b := range again {
			if algorithms.Same(a, b) != (i == k) {
				t.Fatalf("Same of %v and %v is %v", a, b, i != k)
			}
		}
	}
}

func TestSameOfParts(t *testing.T) {
	id := samples.Arcs(3, 1, 2, 3)
	list := func() []api.Element {
		return []api.Element{
			{},
			tagged(api.Tag{Number: 1}),
			tagged(api.Tag{Class: 1}),
			tagged(api.Tag{Class: 255}),
			tagged(api.Tag{Constructed: true}),
			{Bytes: []byte{0}},
			{Bytes: []byte{1}},
			{Bytes: []byte{0, 0}},
			{Bytes: []byte{0}, Subs: []api.Element{{}}},
			{Subs: []api.Element{{}}},
			{Subs: []api.Element{{}, {}}},
			{Subs: []api.Element{{}, {}, {}}},
			{Subs: []api.Element{{Bytes: []byte{0}}, {}}},
			{Subs: []api.Element{{}, {Bytes: []byte{0}}}},
			{Subs: []api.Element{{Subs: []api.Element{{}}}}},
			{Subs: []api.Element{{Subs: []api.Element{{}}}, {}}},
			{Subs: []api.Element{{}, {Subs: []api.Element{{}}}}},
			{Subs: []api.Element{{Subs: []api.Element{{}, {}}}}},
			{Subs: []api.Element{{Subs: []api.Element{{Tag: api.Tag{Number: 1}}}}}},
		}
	}
	for i, a := range list() {
		for k, b := range list() {
			for _, has := range []bool{false, true} {
				one, two := algorithms.Algorithm{ID: id, Has: has, Params: a}, algorithms.Algorithm{ID: id, Has: has, Params: b}
				if algorithms.Same(one, two) != (i == k) {
					t.Errorf("Same of %v and %v is %v", a, b, i != k)
				}
				two.Has = !has
				if algorithms.Same(one, two) {
					t.Errorf("Same of %v with and without Has", a)
				}
			}
		}
	}
	empty := api.Element{Bytes: []byte{}, Subs: []api.Element{}}
	if !algorithms.Same(algorithms.Algorithm{Params: empty}, algorithms.Algorithm{}) || !algorithms.Same(algorithms.Algorithm{}, algorithms.Algorithm{Params: empty}) {
		t.Error("nil and empty slices are not equal")
	}
	if !algorithms.Same(algorithms.Algorithm{Params: api.Element{Subs: []api.Element{empty}}}, algorithms.Algorithm{Params: api.Element{Subs: []api.Element{{}}}}) {
		t.Error("nil and empty slices within are not equal")
	}
}

func TestSameOfLargeParameters(t *testing.T) {
	deep := func(e api.Element) algorithms.Algorithm {
		return algorithms.Algorithm{Params: samples.Nest(e, maxLevels-1)}
	}
	if !algorithms.Same(deep(null()), deep(null())) || algorithms.Same(deep(null()), deep(samples.Leaf(2))) || algorithms.Same(deep(null()), deep(samples.Seq())) {
		t.Error("Same of 2^16 levels")
	}
	wide := func(e api.Element) algorithms.Algorithm {
		return algorithms.Algorithm{Params: samples.Repeat(samples.Leaf(2, 1, 2), 1<<20, e)}
	}
	if !algorithms.Same(wide(null()), wide(null())) || algorithms.Same(wide(null()), wide(samples.Leaf(2))) {
		t.Error("Same of 2^20 elements")
	}
	long := func(last byte) algorithms.Algorithm {
		return algorithms.Algorithm{Params: samples.Leaf(4, append(make([]byte, 1<<26), last)...)}
	}
	if !algorithms.Same(long(1), long(1)) || algorithms.Same(long(1), long(2)) {
		t.Error("Same of 2^26 bytes")
	}
	// Less than 2^31 elements and bytes in all.
	heavy := func() algorithms.Algorithm {
		return algorithms.Algorithm{Params: samples.Repeat(samples.Leaf(4, make([]byte, 1<<20)...), 2046)}
	}
	if !algorithms.Same(heavy(), heavy()) {
		t.Error("Same of 2046 MiB")
	}
}

func TestSameEnds(t *testing.T) {
	id := samples.Arcs(3, 1, 2, 3)
	one, two := samples.Cyclic(), samples.Cyclic()
	for i := range one {
		for k := range two {
			a, b := algorithms.Algorithm{ID: id, Has: true, Params: one[i]}, algorithms.Algorithm{ID: id, Has: true, Params: two[k]}
			// Nothing is promised for two of them but that it ends.
			algorithms.Same(a, b)
			algorithms.SameKey(algorithms.Key{Algorithm: a}, algorithms.Key{Algorithm: b})
		}
		cyclic := algorithms.Algorithm{ID: id, Has: true, Params: one[i]}
		for _, p := range goodParams() {
			if other := algorithm(id, p); algorithms.Same(cyclic, other) || algorithms.Same(other, cyclic) {
				t.Errorf("element %d, which contains itself, is the same as %s", i, p.name)
			}
		}
		algorithms.Same(cyclic, algorithms.Algorithm{ID: id, Has: true, Params: samples.Nest(null(), 3*maxLevels)})
	}
	// Two equal Subs at each level are 2^60 elements of little memory.
	shared := func() algorithms.Algorithm {
		e := samples.Leaf(4, make([]byte, 1<<20)...)
		for range 60 {
			e = samples.Seq(e, e)
		}
		return algorithms.Algorithm{Params: e}
	}
	algorithms.Same(shared(), shared())
}

func TestSameKey(t *testing.T) {
	list := func() []algorithms.Key {
		var list []algorithms.Key
		for _, a := range []algorithms.Algorithm{{}, {ID: samples.Arcs(3, 1, 2, 3)}, {Has: true}, {Params: null()}, {ID: samples.Arcs(3, 1, 2, 3), Has: true, Params: null()}} {
			for _, b := range [][]byte{nil, {0}, {1}, {0, 0}, {0, 1}, {0xa0}} {
				for _, n := range []int{0, 1, 3, 4, 8, 16, -1, math.MaxInt, math.MinInt} {
					list = append(list, algorithms.Key{Algorithm: a, Bits: b, N: n})
				}
			}
		}
		return list
	}
	for i, a := range list() {
		for k, b := range list() {
			if algorithms.SameKey(a, b) != (i == k) {
				t.Fatalf("SameKey of %v and %v is %v", a, b, i != k)
			}
		}
	}
	if !algorithms.SameKey(algorithms.Key{}, algorithms.Key{Bits: []byte{}}) || !algorithms.SameKey(algorithms.Key{Bits: []byte{}}, algorithms.Key{}) {
		t.Error("nil and empty slices are not equal")
	}
}

// P13.6

func TestSameExactlyIfTheElementsAre(t *testing.T) {
	valid := slices.DeleteFunc(distinct(), func(a algorithms.Algorithm) bool { return algorithms.Check(a) != api.OK })
	var list []api.Element
	for _, a := range valid {
		e, _ := algorithms.Element(a)
		list = append(list, e)
	}
	for i, a := range valid {
		for k, b := range valid {
			if algorithms.Same(a, b) != elements.Same(list[i], list[k]) {
				t.Fatalf("Same of %v and %v differs from that of their elements", a, b)
			}
		}
	}
}

func TestSameKeyExactlyIfTheElementsAre(t *testing.T) {
	var valid []algorithms.Key
	var list []api.Element
	for _, p := range goodParams()[:5] {
		for _, x := range goodBits() {
			k := key(algorithm(samples.Arcs(3, 1, 2, 3), p), x)
			e, _ := algorithms.KeyElement(k)
			valid, list = append(valid, k), append(list, e)
		}
	}
	for i, a := range valid {
		for k, b := range valid {
			if algorithms.SameKey(a, b) != elements.Same(list[i], list[k]) {
				t.Fatalf("SameKey of %v and %v differs from that of their elements", a, b)
			}
		}
	}
}

// The examples of the chapter.

func TestExamples(t *testing.T) {
	id := oids.Of(1, 2, 840, 113549, 1, 1, 11)
	with, without := algorithms.Algorithm{ID: id, Has: true, Params: null()}, algorithms.Algorithm{ID: id}
	for i, x := range []struct {
		a    algorithms.Algorithm
		want string
	}{{with, "\x30\x0d\x06\x09\x2a\x86\x48\x86\xf7\x0d\x01\x01\x0b\x05\x00"}, {without, "\x30\x0b\x06\x09\x2a\x86\x48\x86\xf7\x0d\x01\x01\x0b"}} {
		e, err := algorithms.Element(x.a)
		if b := encode(t, e); err != api.OK || string(b) != x.want {
			t.Errorf("Element, example %d: %x, error %d", i, b, err)
		}
	}
	for _, x := range []struct {
		b    string
		err  api.Errno
		path []int
	}{{"\x30\x00", api.ErrShort, nil}, {"\x30\x02\x05\x00", api.ErrTag, []int{0}}, {"\x30\x04\x06\x00\x05\x00", api.ErrShort, []int{0}}} {
		e, _, _ := elements.Get([]byte(x.b))
		if _, f := algorithms.Of(e); !samples.IsFault(f, x.err, x.path...) {
			t.Errorf("Of(%x): %v", x.b, f)
		}
	}
	a := algorithms.Algorithm{ID: oids.Of(1, 2, 3)}
	e, err := algorithms.KeyElement(algorithms.Key{Algorithm: a, Bits: []byte{0xa0}, N: 3})
	if b := encode(t, e); err != api.OK || string(b) != "\x30\x0a\x30\x04\x06\x02\x2a\x03\x03\x02\x05\xa0" {
		t.Errorf("KeyElement: %x, error %d", b, err)
	}
	a.Params = null()
	if err := algorithms.Check(a); err != api.ErrArg {
		t.Errorf("Check: error %d", err)
	}
}

// R4

// checkMemory checks that what make returns for an element is new memory.
func checkMemory(t *testing.T, name string, e api.Element, make func(e api.Element) api.Element) {
	t.Helper()
	if flaw := samples.MemoryFlaw(e, make); flaw != "" {
		t.Errorf("%s: %s", name, flaw)
	}
}

func TestResultsAreNewMemory(t *testing.T) {
	id := samples.Arcs(3, 1, 2, 3)
	part := samples.Seq(samples.Leaf(2, 1, 2, 3), null())
	for _, params := range []api.Element{null(), samples.Leaf(4, 1, 2, 3), samples.Seq(part, part, samples.Leaf(6)), samples.Repeat(part, 100)} {
		checkMemory(t, "Element", params, func(e api.Element) api.Element {
			e, _ = algorithms.Element(algorithms.Algorithm{ID: id, Has: true, Params: e})
			return e
		})
		checkMemory(t, "KeyElement", samples.Seq(params, samples.Leaf(4, 7, 8)), func(e api.Element) api.Element {
			e, _ = algorithms.KeyElement(algorithms.Key{Algorithm: algorithms.Algorithm{ID: id, Has: true, Params: e.Subs[0]}, Bits: e.Subs[1].Bytes, N: 16})
			return e
		})
		a, _ := algorithms.Element(algorithms.Algorithm{ID: id, Has: true, Params: params})
		checkMemory(t, "Of", a, func(e api.Element) api.Element {
			a, _ := algorithms.Of(e)
			return a.Params
		})
		k, _ := algorithms.KeyElement(algorithms.Key{Algorithm: algorithms.Algorithm{ID: id, Has: true, Params: params}, Bits: []byte{7, 8}, N: 16})
		checkMemory(t, "KeyOf", k, func(e api.Element) api.Element {
			k, _ := algorithms.KeyOf(e)
			return api.Element{Bytes: k.Bits, Subs: slices.Clip([]api.Element{k.Algorithm.Params})}
		})
	}
}

func TestPathsAreNewMemory(t *testing.T) {
	id := samples.Leaf(6, 0x2a, 3)
	for _, e := range []api.Element{
		samples.Seq(null()),
		samples.Seq(id, id, id),
		samples.Seq(samples.Leaf(6)),
		samples.Seq(samples.Seq(), samples.Leaf(3, 0)),
		samples.Seq(samples.Seq(null()), samples.Leaf(3, 0)),
		samples.Seq(samples.Seq(samples.Leaf(6)), samples.Leaf(3, 0)),
		samples.Seq(samples.Seq(id), samples.Leaf(3)),
	} {
		for _, read := range []func() fields.Fault{
			func() fields.Fault { _, f := algorithms.Of(e); return f },
			func() fields.Fault { _, f := algorithms.KeyOf(e); return f },
		} {
			if flaw := samples.PathFlaw(read); flaw != "" {
				t.Errorf("%v: %s", e, flaw)
			}
		}
	}
}

func TestArgumentsAreNotChanged(t *testing.T) {
	for _, params := range []api.Element{samples.Seq(samples.Leaf(2, 1), null()), samples.Leaf(4, 1, 2)} {
		k := algorithms.Key{Algorithm: algorithms.Algorithm{ID: samples.Arcs(3, 1, 2, 3), Has: true, Params: samples.Clone(params)}, Bits: []byte{7, 0x80}, N: 9}
		algorithms.Check(k.Algorithm)
		algorithms.CheckKey(k)
		algorithms.Same(k.Algorithm, k.Algorithm)
		algorithms.SameKey(k, k)
		algorithms.KeyElement(k)
		if !samples.Equal(k.Algorithm.Params, params) || !bytes.Equal(k.Bits, []byte{7, 0x80}) {
			t.Errorf("an argument is changed: %v", k)
		}
	}
}
