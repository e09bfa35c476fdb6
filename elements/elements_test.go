package elements_test

import (
	"bytes"
	"encoding/asn1"
	"math"
	"math/rand"
	"slices"
	"testing"

	"vidimus/api"
	"vidimus/elements"
	"vidimus/lengths"
	"vidimus/samples"
	"vidimus/tags"
)

// The tags of most elements here.
var (
	sequence = api.Tag{Constructed: true, Number: api.TagSequence}
	octets   = api.Tag{Number: api.TagOctets}
	null     = api.Element{Tag: api.Tag{Number: api.TagNull}}
	seven    = api.Element{Tag: api.Tag{Number: api.TagInteger}, Bytes: []byte{7}}
	zero     = api.Element{}                                 // its tag is not valid: ErrTag
	alien    = api.Element{Tag: api.Tag{Class: 4}}           // its class is not valid: ErrArg
	mixed    = api.Element{Tag: sequence, Bytes: []byte{1}}  // ErrArg
	chapterE = []byte{0x30, 0x05, 0x02, 0x01, 0x07, 0x05, 0} // the encoding of E in the chapter's examples
)

// seq returns a SEQUENCE.
func seq(subs ...api.Element) api.Element { return api.Element{Tag: sequence, Subs: subs} }

// nest returns e in n SEQUENCEs.
func nest(e api.Element, n int) api.Element {
	for range n {
		e = seq(e)
	}
	return e
}

// times returns a SEQUENCE of n times e, and of what follows.
func times(e api.Element, n int, more ...api.Element) api.Element {
	subs := make([]api.Element, n)
	for i := range subs {
		subs[i] = e
	}
	return seq(append(subs, more...)...)
}

// blob returns an OCTET STRING of n octets.
func blob(n int) api.Element { return api.Element{Tag: octets, Bytes: make([]byte, n)} }

// random makes random elements.
type random struct{ *rand.Rand }

// tag returns a random valid tag.
func (r random) tag(constructed bool) api.Tag {
	for {
		t := api.Tag{Class: api.Class(r.Intn(4)), Constructed: constructed, Number: uint32(r.Intn(32))}
		if r.Intn(8) == 0 {
			t.Number = r.Uint32() >> (4 + r.Intn(28))
		}
		if tags.Check(t) == api.OK {
			return t
		}
	}
}

// element returns a random valid element with at most so many levels.
func (r random) element(levels int) api.Element {
	if levels == 1 || r.Intn(5) < 2 {
		e := api.Element{Tag: r.tag(false), Bytes: make([]byte, r.Intn(6))}
		if r.Intn(40) == 0 {
			e.Bytes = make([]byte, r.Intn(300))
		}
		r.Read(e.Bytes)
		return e
	}
	e := api.Element{Tag: r.tag(true)}
	for range r.Intn(5) {
		e.Subs = append(e.Subs, r.element(levels-1))
	}
	return e
}

// valid lists valid elements.
func valid() []api.Element {
	list := []api.Element{
		null, seven, seq(), seq(seven, null), seq(seq(seven), seq(), null),
		{Tag: octets, Bytes: []byte{}, Subs: []api.Element{}},
		{Tag: sequence, Bytes: []byte{}, Subs: []api.Element{}},
		{Tag: octets, Bytes: make([]byte, 0, 9), Subs: make([]api.Element, 0, 9)},
		{Tag: sequence, Bytes: make([]byte, 0, 9), Subs: make([]api.Element, 0, 9)},
		{Tag: api.Tag{Class: api.Context, Constructed: true, Number: 0}, Subs: []api.Element{seven}},
		{Tag: api.Tag{Class: api.Private, Number: tags.MaxNumber}, Bytes: []byte{1, 2}},
		nest(null, 15), nest(seq(null, null), 14), nest(seq(), 15),
		times(null, 8191), times(times(null, 15), 511), nest(times(null, 8190), 1),
	}
	for _, n := range []int{126, 127, 128, 129, 254, 255, 256, 257, 1<<16 - 1, 1 << 16} {
		list = append(list, blob(n), seq(blob(n)), seq(seven, blob(n), null))
	}
	r := random{rand.New(rand.NewSource(1))}
	for i := range 600 {
		list = append(list, r.element(1+i%16))
	}
	return list
}

// invalid lists elements that are not valid, with the error of Check.
var invalid = []struct {
	name string
	e    api.Element
	err  api.Errno
}{
	// One element alone.
	{"a tag that is excluded", zero, api.ErrTag},
	{"a primitive SEQUENCE", api.Element{Tag: api.Tag{Number: api.TagSequence}}, api.ErrTag},
	{"a primitive SET", api.Element{Tag: api.Tag{Number: api.TagSet}, Bytes: []byte{5, 0}}, api.ErrTag},
	{"a class that is too large", alien, api.ErrArg},
	{"a number that is too large", api.Element{Tag: api.Tag{Class: api.Context, Number: tags.MaxNumber + 1}}, api.ErrArg},
	{"primitive with Subs", api.Element{Tag: octets, Subs: []api.Element{null}}, api.ErrArg},
	{"primitive with Bytes and Subs", api.Element{Tag: octets, Bytes: []byte{5, 0}, Subs: []api.Element{null}}, api.ErrArg},
	{"constructed with Bytes", mixed, api.ErrArg},
	{"constructed with Bytes and Subs", api.Element{Tag: sequence, Bytes: []byte{5, 0}, Subs: []api.Element{null}}, api.ErrArg},
	{"17 levels", nest(null, 16), api.ErrDepth},
	{"17 levels of SEQUENCEs", nest(seq(), 16), api.ErrDepth},
	{"18 levels", nest(null, 17), api.ErrDepth},
	{"1000 levels", nest(null, 999), api.ErrDepth},
	{"8193 elements", times(null, 8192), api.ErrLimit},
	{"8194 elements", times(null, 8193), api.ErrLimit},
	{"8193 elements at several levels", times(times(null, 15), 512), api.ErrLimit},
	{"8193 elements, the last one at the first level", seq(times(null, 8190), null), api.ErrLimit},
	{"8193 elements, the last one at the last level", nest(times(null, 8178), 14), api.ErrLimit},
	// Several rules, one element: the tag, then the parts, the depth, the number.
	{"tag before parts", api.Element{Subs: []api.Element{null}}, api.ErrTag},
	{"tag before parts of a constructed one", api.Element{Tag: api.Tag{Constructed: true}, Bytes: []byte{1}}, api.ErrTag},
	{"tag before depth", nest(zero, 16), api.ErrTag},
	{"class before depth", nest(alien, 16), api.ErrArg},
	{"tag before number", times(null, 8191, zero), api.ErrTag},
	{"parts before depth", nest(mixed, 16), api.ErrArg},
	{"parts before number", times(null, 8191, mixed), api.ErrArg},
	{"tag before depth and number", seq(times(null, 8175), nest(zero, 15)), api.ErrTag},
	{"depth before number", seq(times(null, 8175), nest(null, 15)), api.ErrDepth},
	// Several elements: the first one in preorder.
	{"tag, then parts", seq(null, zero, mixed), api.ErrTag},
	{"parts, then tag", seq(null, mixed, zero), api.ErrArg},
	{"an element before its Subs", api.Element{Tag: octets, Subs: []api.Element{zero}}, api.ErrArg},
	{"an element with another tag before its Subs", api.Element{Subs: []api.Element{alien}}, api.ErrTag},
	{"Subs before what follows", seq(seq(seq(zero)), mixed), api.ErrTag},
	{"Subs before what follows, the other way round", seq(seq(seq(mixed)), zero), api.ErrArg},
	{"depth, then tag", seq(nest(null, 16), zero), api.ErrDepth},
	{"tag, then depth", seq(zero, nest(null, 16)), api.ErrTag},
	{"depth before the tag within", nest(zero, 17), api.ErrDepth},
	{"depth, then number", seq(nest(null, 16), times(null, 9000)), api.ErrDepth},
	{"number, then depth", seq(times(null, 9000), nest(null, 16)), api.ErrLimit},
	{"number, then tag", times(null, 8192, zero), api.ErrLimit},
	{"number, then parts", times(null, 8192, mixed), api.ErrLimit},
	{"number, before the tag within", times(null, 8191, seq(zero)), api.ErrLimit},
}

// encode returns the encoding that another implementation writes.
func encode(t *testing.T, e api.Element) []byte {
	t.Helper()
	content := e.Bytes
	for _, sub := range e.Subs {
		content = append(content, encode(t, sub)...)
	}
	b, err := asn1.Marshal(asn1.RawValue{Class: int(e.Tag.Class), Tag: int(e.Tag.Number), IsCompound: e.Tag.Constructed, Bytes: content})
	if err != nil {
		t.Fatal(err)
	}
	return b
}

// visit calls see for each element of e, in preorder, with its depth.
func visit(e api.Element, level int, see func(e api.Element, level int)) {
	see(e, level)
	for _, sub := range e.Subs {
		visit(sub, level+1, see)
	}
}

// brief returns the beginning of bytes, to be printed.
func brief(b []byte) []byte { return b[:min(len(b), 40)] }

// P4.1

func TestCheck(t *testing.T) {
	for i, e := range valid() {
		if err := elements.Check(e); err != api.OK {
			t.Errorf("valid element %d: error %d", i, err)
		}
	}
	for _, x := range invalid {
		if err := elements.Check(x.e); err != x.err {
			t.Errorf("%s: error %d, want %d", x.name, err, x.err)
		}
	}
}

func TestCheckOfElementsThatContainThemselves(t *testing.T) {
	for i, e := range samples.Cyclic() {
		if err := elements.Check(e); err != api.ErrDepth {
			t.Errorf("%d: error %d", i, err)
		}
		if _, err := elements.Put(e); err != api.ErrDepth {
			t.Errorf("%d: Put: error %d", i, err)
		}
		if _, err := elements.At(e, []int{0}); err != api.ErrDepth {
			t.Errorf("%d: At: error %d", i, err)
		}
		if elements.Size(e) != 0 || elements.Count(e) != 0 || elements.Depth(e) != 0 || elements.Same(e, e) || elements.Compare(e, null) != -1 {
			t.Errorf("%d: it counts as valid", i)
		}
	}
}

func TestCheckOfSharedElements(t *testing.T) {
	// With two equal Subs at each level there are 2^k - 1 elements of little memory.
	e := null
	for k := 1; k <= 40; k++ {
		want := api.OK
		if k > 16 {
			want = api.ErrDepth
		} else if 1<<k-1 > 8192 {
			want = api.ErrLimit
		}
		if err := elements.Check(e); err != want {
			t.Errorf("%d levels: error %d, want %d", k, err, want)
		}
		e = seq(e, e)
	}
}

// P4.2

func TestPutAndSize(t *testing.T) {
	for i, e := range valid() {
		want := encode(t, e)
		b, err := elements.Put(e)
		if err != api.OK || !bytes.Equal(b, want) {
			t.Errorf("%d: %x, error %d, want %x", i, brief(b), err, brief(want))
		}
		if cap(b) != len(b) {
			t.Errorf("%d: %d bytes with the capacity %d", i, len(b), cap(b))
		}
		if size := elements.Size(e); size != len(want) {
			t.Errorf("%d: size %d, want %d", i, size, len(want))
		}
	}
}

func TestPutAndSizeOfInvalidElements(t *testing.T) {
	for _, x := range invalid {
		if b, err := elements.Put(x.e); err != x.err || len(b) > 0 {
			t.Errorf("%s: %x, error %d, want %d", x.name, brief(b), err, x.err)
		}
		if size := elements.Size(x.e); size != 0 {
			t.Errorf("%s: size %d", x.name, size)
		}
	}
}

// largest lists elements whose encodings have MaxText bytes.
func largest() []api.Element {
	const most = api.MaxText
	last := blob(most - 5 - 4 - 5)
	return []api.Element{
		blob(most - 5),
		{Tag: api.Tag{Class: api.Context, Number: tags.MaxNumber}, Bytes: make([]byte, most-9)},
		seq(blob(most - 10)),
		seq(null, last, null),
		nest(blob(most-5*16), 15),
		times(blob(1<<13-4), 126, blob(most-5-126<<13-4)),
	}
}

// large lists valid elements whose encodings have more than MaxText bytes.
func large() []api.Element {
	const most = api.MaxText
	list := []api.Element{
		blob(most - 4),
		blob(most - 3),
		blob(most),
		blob(most + 1),
		{Tag: api.Tag{Class: api.Context, Number: tags.MaxNumber}, Bytes: make([]byte, most-8)},
		seq(blob(most - 9)),
		seq(blob(most - 5)),
		seq(null, blob(most-5-4-4), null),
		seq(blob(most-11), null),
		seq(null, blob(most-11)),
		seq(null, seq(null), seq(seq(blob(1<<20)))),
		nest(blob(most-5*16+1), 15),
		times(blob(1<<13-4), 128),
		times(blob(1<<13-4), 8191),
		times(blob(1<<20), 8191),
		blob(lengths.MaxLength - 1),
		blob(lengths.MaxLength),
		blob(lengths.MaxLength + 1),
		blob(lengths.MaxLength + 6),
		seq(blob(lengths.MaxLength + 1)),
		seq(blob(lengths.MaxLength+1), blob(lengths.MaxLength+1), null),
		times(api.Element{Tag: octets, Bytes: make([]byte, 1<<24)}, 8191),
		seq(blob(1<<24), times(null, 8000)),
	}
	return list
}

func TestPutAndSizeOfLargeElements(t *testing.T) {
	for i, e := range largest() {
		b, err := elements.Put(e)
		if err != api.OK || len(b) != api.MaxText || !bytes.Equal(b, encode(t, e)) {
			t.Errorf("largest element %d: %d bytes, error %d", i, len(b), err)
		}
		if size := elements.Size(e); size != api.MaxText {
			t.Errorf("largest element %d: size %d", i, size)
		}
	}
	for i, e := range large() {
		if b, err := elements.Put(e); err != api.ErrLimit || len(b) > 0 {
			t.Errorf("large element %d: %d bytes, error %d", i, len(b), err)
		}
		if size := elements.Size(e); size != 0 {
			t.Errorf("large element %d: size %d", i, size)
		}
		if err := elements.Check(e); err != api.OK {
			t.Errorf("large element %d: error %d of Check", i, err)
		}
		// The error of Check comes first, wherever it is.
		for _, x := range []api.Element{seq(zero, e), seq(e, zero), seq(e, seq(seq(), zero))} {
			if b, err := elements.Put(x); err == api.OK || err != elements.Check(x) || len(b) > 0 {
				t.Errorf("large element %d with an invalid tag: %d bytes, error %d", i, len(b), err)
			}
		}
	}
	if _, err := elements.Put(seq(blob(1<<20), zero)); err != api.ErrTag {
		t.Errorf("an invalid tag behind a large element: error %d", err)
	}
}

// P4.3

// fault is what Next returns for an input that it does not accept.
type fault struct {
	at  int
	err api.Errno
}

// reading is where the chapter's rules lead: an element or a fault. It is kept apart from the recursion of the program: what is left ends at the last of ends.
type reading struct {
	b    []byte
	ends []int
	at   int
	seen int
}

// refer reads an element by the rules of the chapter, one after another.
func refer(b []byte) (size int, f fault) {
	if len(b) > api.MaxText {
		return 0, fault{0, api.ErrLimit}
	}
	r := reading{b: b, ends: []int{len(b)}}
	for {
		if f := r.step(); f.err != api.OK {
			return 0, f
		}
		for len(r.ends) > 1 && r.at == r.ends[len(r.ends)-1] {
			r.ends = r.ends[:len(r.ends)-1]
		}
		if len(r.ends) == 1 {
			return r.at, fault{}
		}
	}
}

// step reads the octets before the content of the next element; and the content, if it is primitive.
func (r *reading) step() fault {
	end := r.ends[len(r.ends)-1]
	tag, size, err := tags.Get(r.b[r.at:end])
	if err == api.ErrShort {
		return fault{end, err}
	}
	if err != api.OK {
		return fault{r.at, err}
	}
	if len(r.ends) > 16 {
		return fault{r.at, api.ErrDepth}
	}
	if r.seen++; r.seen > 8192 {
		return fault{r.at, api.ErrLimit}
	}
	r.at += size
	length, size, err := lengths.Get(r.b[r.at:end])
	if err == api.ErrShort {
		return fault{end, err}
	}
	if err != api.OK {
		return fault{r.at, err}
	}
	r.at += size
	if r.at+length > end {
		return fault{end, api.ErrShort}
	}
	if tag.Constructed {
		r.ends = append(r.ends, r.at+length)
	} else {
		r.at += length
	}
	return fault{}
}

// checkFault checks that Next and Get return a fault, and nothing else, for b.
func checkFault(t *testing.T, b []byte, at int, want api.Errno) {
	t.Helper()
	if e, size, where, err := elements.Next(b); err != want || where != at || size != 0 || !samples.IsZero(e) {
		t.Errorf("Next(%x): %v, size %d, error %d at %d, want %d at %d", brief(b), e, size, err, where, want, at)
	}
	if e, where, err := elements.Get(b); err != want || where != at || !samples.IsZero(e) {
		t.Errorf("Get(%x): %v, error %d at %d, want %d at %d", brief(b), e, err, where, want, at)
	}
}

// checkRead checks that Next and Get return an element, or a fault, as they should for b.
func checkRead(t *testing.T, b []byte) {
	t.Helper()
	want, f := refer(b)
	if f.err != api.OK {
		checkFault(t, b, f.at, f.err)
		return
	}
	e, size, at, err := elements.Next(b)
	if err != api.OK || at != 0 || size != want {
		t.Errorf("Next(%x): size %d, error %d at %d, want size %d", brief(b), size, err, at, want)
		return
	}
	if back := encode(t, e); !bytes.Equal(back, b[:size]) {
		t.Errorf("Next(%x): the element has the encoding %x", brief(b), brief(back))
	}
	e, at, err = elements.Get(b)
	if size == len(b) && (err != api.OK || at != 0 || samples.IsZero(e)) {
		t.Errorf("Get(%x): error %d at %d", brief(b), err, at)
	}
	if size < len(b) && (err != api.ErrTrail || at != size || !samples.IsZero(e)) {
		t.Errorf("Get(%x): %v, error %d at %d, want %d at %d", brief(b), e, err, at, api.ErrTrail, size)
	}
}

func TestGetAndNext(t *testing.T) {
	for i, e := range append(valid(), largest()...) {
		b := encode(t, e)
		if got, at, err := elements.Get(b); err != api.OK || at != 0 || !samples.Equal(got, e) {
			t.Errorf("%d: Get(%x): error %d at %d", i, brief(b), err, at)
		}
		for _, tail := range [][]byte{nil, {0}, {0, 0}, {0x30}, {0x30, 0x80}, bytes.Repeat([]byte{0xff}, 200), b} {
			full := append(bytes.Clone(b), tail...)
			if len(full) > api.MaxText {
				checkFault(t, full, 0, api.ErrLimit)
				continue
			}
			got, size, at, err := elements.Next(full)
			if err != api.OK || at != 0 || size != len(b) || !samples.Equal(got, e) {
				t.Errorf("%d: Next(%x, then %x): size %d, error %d at %d", i, brief(b), brief(tail), size, err, at)
			}
			if len(tail) == 0 {
				continue
			}
			if got, at, err := elements.Get(full); err != api.ErrTrail || at != len(b) || !samples.IsZero(got) {
				t.Errorf("%d: Get(%x, then %x): error %d at %d", i, brief(b), brief(tail), err, at)
			}
		}
	}
}

// join returns its arguments one after another.
func join(parts ...[]byte) []byte { return bytes.Join(parts, nil) }

// wrapped returns b in n SEQUENCEs.
func wrapped(b []byte, n int) []byte {
	for range n {
		length, _ := lengths.Put(len(b))
		b = join([]byte{0x30}, length, b)
	}
	return b
}

func TestFaults(t *testing.T) {
	for _, x := range []struct {
		b   []byte
		at  int
		err api.Errno
	}{
		// Identifier octets.
		{nil, 0, api.ErrShort},
		{[]byte{}, 0, api.ErrShort},
		{[]byte{0x1f}, 1, api.ErrShort},
		{[]byte{0x9f, 0x81}, 2, api.ErrShort},
		{[]byte{0}, 0, api.ErrTag},
		{[]byte{0, 0}, 0, api.ErrTag},
		{[]byte{0x10}, 0, api.ErrTag},
		{[]byte{0x9f, 0x80}, 0, api.ErrTag},
		{[]byte{0x9f, 0x1e, 0}, 0, api.ErrTag},
		{[]byte{0x9f, 0x81, 0x81, 0x81, 0x81}, 0, api.ErrTag},
		{[]byte{0x30, 4, 5, 0, 0x11, 0}, 4, api.ErrTag},
		{[]byte{0x30, 5, 5, 0, 0x9f, 0x80, 0}, 4, api.ErrTag},
		{[]byte{0x30, 3, 5, 0, 0x9f, 0x21, 0}, 5, api.ErrShort},
		{[]byte{0x30, 1, 5, 0, 0}, 3, api.ErrShort},
		// Length octets.
		{[]byte{5}, 1, api.ErrShort},
		{[]byte{5, 0x81}, 2, api.ErrShort},
		{[]byte{5, 0x82, 0}, 3, api.ErrShort},
		{[]byte{5, 0x80}, 1, api.ErrLength},
		{[]byte{5, 0x84}, 1, api.ErrLength},
		{[]byte{5, 0xff}, 1, api.ErrLength},
		{[]byte{5, 0x81, 0x7f}, 1, api.ErrLength},
		{[]byte{5, 0x82, 0, 0xff}, 1, api.ErrLength},
		{[]byte{0x9f, 0x21, 0x80}, 2, api.ErrLength},
		{[]byte{0xbf, 0x81, 0x21, 0x84, 0, 0, 0, 0}, 3, api.ErrLength},
		{[]byte{0x30, 4, 5, 0, 5, 0x80}, 5, api.ErrLength},
		{[]byte{0x30, 2, 5, 0x81, 0x80}, 4, api.ErrShort},
		{[]byte{0x30, 4, 0x30, 1, 5, 0}, 5, api.ErrShort},
		// What is left.
		{[]byte{5, 1}, 2, api.ErrShort},
		{[]byte{4, 0x81, 0x80}, 3, api.ErrShort},
		{[]byte{4, 0x83, 0xff, 0xff, 0xff, 1, 2}, 7, api.ErrShort},
		{[]byte{4, 2, 1}, 3, api.ErrShort},
		{[]byte{0x30, 3, 4, 2, 1, 2, 3}, 5, api.ErrShort},
		{[]byte{0x30, 6, 0x30, 2, 4, 1, 5, 0}, 6, api.ErrShort},
		{[]byte{0x30, 4, 0x30, 4, 5, 0, 5, 0}, 6, api.ErrShort},
		// The end of the content is not looked for before its beginning is there, and the content is not read before its end is there.
		{[]byte{0x30, 3, 0, 0}, 4, api.ErrShort},
		{[]byte{0x30, 1}, 2, api.ErrShort},
		{[]byte{0x30, 4, 0x30, 3, 0, 0}, 6, api.ErrShort},
		{[]byte{0x30, 4, 0x30, 3, 0, 0, 0}, 6, api.ErrShort},
		// The first fault in preorder.
		{[]byte{0x30, 4, 5, 0x80, 0, 0}, 3, api.ErrLength},
		{[]byte{0x30, 6, 0x30, 2, 5, 1, 0, 0}, 6, api.ErrShort},
		{[]byte{0x30, 4, 0, 0, 5, 0x80}, 2, api.ErrTag},
		// A fault within the element comes before what follows it.
		{[]byte{0x30, 2, 0, 0, 1}, 2, api.ErrTag},
		{[]byte{0x30, 2, 5, 1, 1}, 4, api.ErrShort},
	} {
		checkFault(t, x.b, x.at, x.err)
		if size, f := refer(x.b); size != 0 || f != (fault{x.at, x.err}) {
			t.Errorf("%x: the reference has size %d, error %d at %d", x.b, size, f.err, f.at)
		}
	}
}

func TestFaultsOfDepth(t *testing.T) {
	for _, inner := range [][]byte{{5, 0}, {0x30, 0}, {0x30, 2, 5, 0}, {5, 0x80}, {5}, {5, 1}} {
		checkFault(t, wrapped(inner, 16), 32, api.ErrDepth)
		checkFault(t, join(wrapped(inner, 16), []byte{0}), 32, api.ErrDepth)
		checkFault(t, wrapped(inner, 20), 32, api.ErrDepth)
		checkFault(t, wrapped(join([]byte{5, 0}, inner), 16), 32, api.ErrDepth)
	}
	// The errors of the tag come first, those of the length later.
	checkFault(t, wrapped([]byte{0, 0}, 16), 32, api.ErrTag)
	checkFault(t, wrapped([]byte{0x1f}, 16), 33, api.ErrShort)
	checkFault(t, wrapped([]byte{0, 0}, 17), 32, api.ErrDepth)
	for n := range 16 {
		b := wrapped([]byte{0x30, 0}, n)
		if e, at, err := elements.Get(b); err != api.OK || at != 0 || elements.Depth(e) != n+1 {
			t.Errorf("%d levels: error %d at %d", n+1, err, at)
		}
	}
	// Levels that have ended do not count.
	checkRead(t, wrapped(join(wrapped([]byte{5, 0}, 14), wrapped([]byte{5, 0}, 14)), 1))
	checkFault(t, wrapped(join(wrapped([]byte{5, 0}, 14), wrapped([]byte{5, 0}, 15)), 1), 62, api.ErrDepth)
}

func TestFaultsOfNumber(t *testing.T) {
	nulls := func(n int) []byte { return bytes.Repeat([]byte{5, 0}, n) }
	if e, _, err := elements.Get(wrapped(nulls(8191), 1)); err != api.OK || elements.Count(e) != 8192 {
		t.Errorf("8192 elements: error %d, count %d", err, elements.Count(e))
	}
	const at = 4 + 2*8191
	checkFault(t, wrapped(nulls(8192), 1), at, api.ErrLimit)
	checkFault(t, wrapped(nulls(9000), 1), at, api.ErrLimit)
	checkFault(t, wrapped(nulls(1<<19-10), 1), at+1, api.ErrLimit) // one more length octet
	checkFault(t, wrapped(wrapped(nulls(8191), 1), 1), 4+at-2, api.ErrLimit)
	// The errors of the tag come first, then the depth, those of the length later.
	checkFault(t, wrapped(join(nulls(8191), []byte{0, 0}), 1), at, api.ErrTag)
	checkFault(t, wrapped(join(nulls(8191), []byte{0x1f}), 1), at+1, api.ErrShort)
	checkFault(t, wrapped(join(nulls(8191), []byte{5, 0x80}), 1), at, api.ErrLimit)
	checkFault(t, wrapped(join(nulls(8191), []byte{5}), 1), at, api.ErrLimit)
	checkFault(t, wrapped(join(nulls(8191), []byte{5, 1}), 1), at, api.ErrLimit)
	checkFault(t, wrapped(join(nulls(8191-15), wrapped([]byte{5, 0}, 15)), 1), at, api.ErrDepth)
	checkFault(t, wrapped(join(nulls(8191-14), wrapped([]byte{5, 0}, 14)), 1), at, api.ErrLimit)
	// What follows the element does not count.
	if _, size, at, err := elements.Next(join(wrapped(nulls(8191), 1), nulls(9000))); err != api.OK || at != 0 || size != 4+2*8191 {
		t.Errorf("8192 elements, and others behind them: size %d, error %d at %d", size, err, at)
	}
}

func TestFaultsOfLargeInputs(t *testing.T) {
	for _, begin := range [][]byte{{5, 0}, {0, 0}, {4, 0x83, 0x0f, 0xff, 0xfc}, {4, 0x83, 0x0f, 0xff, 0xfb}, {4, 0x83, 0xff, 0xff, 0xff}, {4, 0x80}} {
		for _, n := range []int{api.MaxText + 1, api.MaxText + 2, api.MaxText + 1<<16, lengths.MaxLength + 9} {
			b := make([]byte, n)
			copy(b, begin)
			checkFault(t, b, 0, api.ErrLimit)
			checkRead(t, b[:api.MaxText])
		}
	}
	b := make([]byte, api.MaxText)
	b[0] = api.TagNull
	if e, size, at, err := elements.Next(b); err != api.OK || at != 0 || size != 2 || !samples.Equal(e, null) {
		t.Errorf("a NULL, then zeros: size %d, error %d at %d", size, err, at)
	}
}

// inputs yields all inputs of up to two bytes, those of up to six bytes that consist of bytes which matter, and random ones.
func inputs(yield func(b []byte) bool) {
	for i := range 1 << 16 {
		b := []byte{byte(i >> 8), byte(i)}
		if i < 256 && !yield(b[1:]) || !yield(b) {
			return
		}
	}
	matter := []byte{0x00, 0x01, 0x02, 0x03, 0x05, 0x1f, 0x30, 0x80, 0x81, 0xbf}
	for size, count := 0, 1; size <= 6; size, count = size+1, count*len(matter) {
		for i := range count {
			b := make([]byte, size)
			for k, rest := 0, i; k < size; k, rest = k+1, rest/len(matter) {
				b[k] = matter[rest%len(matter)]
			}
			if !yield(b) {
				return
			}
		}
	}
	// Short lengths behind constructed tags make random bytes look like elements.
	r := rand.New(rand.NewSource(2))
	for range 1 << 18 {
		b := make([]byte, 1+r.Intn(24))
		for i := range b {
			b[i] = []byte{0x30, 0xa1, 0x31, 0x04, 0x05, byte(r.Intn(24)), byte(r.Intn(24)), byte(r.Intn(8)), byte(r.Intn(256))}[r.Intn(9)]
		}
		if !yield(b) {
			return
		}
	}
}

func TestGetAndNextOfAllInputs(t *testing.T) {
	for b := range inputs {
		checkRead(t, b)
		if t.Failed() {
			return
		}
	}
}

func TestGetAndNextOfChangedEncodings(t *testing.T) {
	r := random{rand.New(rand.NewSource(3))}
	for i := range 40000 {
		b, err := elements.Put(r.element(1 + i%16))
		if err != api.OK {
			t.Fatalf("error %d", err)
		}
		for range 1 + r.Intn(3) {
			at := r.Intn(len(b))
			switch r.Intn(4) {
			case 0:
				b[at] = byte(r.Intn(256))
			case 1:
				b[at] ^= 1 << r.Intn(8)
			case 2:
				b = append(b[:at:at], append([]byte{byte(r.Intn(40))}, b[at:]...)...)
			case 3:
				if len(b) > 1 {
					b = append(b[:at:at], b[at+1:]...)
				}
			}
		}
		checkRead(t, b)
		if t.Failed() {
			return
		}
	}
}

// P4.4

func TestCountAndDepth(t *testing.T) {
	for i, e := range valid() {
		count, depth := 0, 0
		visit(e, 1, func(_ api.Element, level int) {
			count++
			depth = max(depth, level)
		})
		if got := elements.Count(e); got != count {
			t.Errorf("%d: count %d, want %d", i, got, count)
		}
		if got := elements.Depth(e); got != depth {
			t.Errorf("%d: depth %d, want %d", i, got, depth)
		}
	}
	for _, x := range invalid {
		if count, depth := elements.Count(x.e), elements.Depth(x.e); count != 0 || depth != 0 {
			t.Errorf("%s: count %d, depth %d", x.name, count, depth)
		}
	}
	for _, x := range []struct {
		e            api.Element
		count, depth int
	}{
		{null, 1, 1},
		{seq(), 1, 1},
		{seq(null), 2, 2},
		{seq(seq(seq(null)), null), 5, 4},
		{seq(null, seq(null, seq()), null, seq(null)), 8, 3},
		{nest(null, 15), 16, 16},
		{times(null, 8191), 8192, 2},
		{times(blob(1<<20), 3), 4, 2}, // it is valid, although Put returns an error
	} {
		if count, depth := elements.Count(x.e), elements.Depth(x.e); count != x.count || depth != x.depth {
			t.Errorf("count %d, depth %d, want %d, %d", count, depth, x.count, x.depth)
		}
	}
}

// P4.5

// variants returns elements that differ from e in one place, at any depth.
func variants(e api.Element) []api.Element {
	var list []api.Element
	change := func(do func(c *api.Element)) {
		c := e
		c.Bytes = bytes.Clone(e.Bytes)
		c.Subs = append([]api.Element(nil), e.Subs...)
		do(&c)
		list = append(list, c)
	}
	change(func(c *api.Element) { c.Tag.Class = (c.Tag.Class+1)%3 + 1 })
	change(func(c *api.Element) { c.Tag.Number++ })
	if e.Tag.Constructed {
		change(func(c *api.Element) { c.Subs = append(c.Subs, null) })
	} else {
		change(func(c *api.Element) { c.Bytes = append(c.Bytes, 0) })
	}
	if len(e.Bytes) > 0 {
		change(func(c *api.Element) { c.Bytes[0]++ })
		change(func(c *api.Element) { c.Bytes[len(c.Bytes)-1] ^= 0x80 })
		change(func(c *api.Element) { c.Bytes = c.Bytes[1:] })
	}
	if len(e.Subs) > 0 {
		change(func(c *api.Element) { c.Subs = c.Subs[1:] })
		change(func(c *api.Element) { c.Subs = append(c.Subs, c.Subs[0]) })
	} else if len(e.Bytes) == 0 {
		change(func(c *api.Element) { c.Tag = api.Tag{Class: api.Context, Constructed: !c.Tag.Constructed, Number: 1} })
	}
	for i, sub := range e.Subs {
		for _, v := range variants(sub) {
			change(func(c *api.Element) { c.Subs[i] = v })
		}
	}
	return list
}

func TestSame(t *testing.T) {
	r := random{rand.New(rand.NewSource(4))}
	list := []api.Element{null, seven, seq(), seq(seven, null), seq(seq(seven), null)}
	for range 60 {
		list = append(list, r.element(4))
	}
	for i, e := range list {
		if !elements.Same(e, e) {
			t.Errorf("%d: not the same as itself", i)
		}
		copied, _, err := elements.Get(encode(t, e))
		if err != api.OK || !elements.Same(e, copied) || !elements.Same(copied, e) {
			t.Errorf("%d: not the same as a copy, error %d", i, err)
		}
		for k, v := range variants(e) {
			want := samples.Equal(e, v) && elements.Check(v) == api.OK
			if elements.Same(e, v) != want || elements.Same(v, e) != want {
				t.Errorf("%d: Same for the variant %d: %t, want %t", i, k, !want, want)
			}
		}
	}
	for _, x := range invalid {
		if elements.Same(x.e, x.e) || elements.Same(x.e, null) || elements.Same(null, x.e) {
			t.Errorf("%s: the same as something", x.name)
		}
	}
	empty := api.Element{Tag: sequence, Bytes: []byte{}, Subs: []api.Element{}}
	if !elements.Same(empty, seq()) || !elements.Same(seq(), empty) {
		t.Error("nil and empty slices differ")
	}
	if elements.Same(api.Element{Tag: octets}, api.Element{Tag: api.Tag{Class: api.Context, Number: 4}}) {
		t.Error("classes do not matter")
	}
}

func TestSameOfLargeElements(t *testing.T) {
	list := large()[:13] // the others have too many bytes to compare them all
	for i, e := range list {
		for k, other := range list {
			if want := samples.Equal(e, other); elements.Same(e, other) != want {
				t.Errorf("Same(large element %d, %d): %t", i, k, !want)
			}
		}
	}
}

func TestCompare(t *testing.T) {
	r := random{rand.New(rand.NewSource(5))}
	list := []api.Element{null, seven, seq(), seq(seven, null), zero, alien, mixed, nest(null, 16), times(null, 8192), blob(1 << 20), blob(1 << 25), blob(200), blob(300), blob(127)}
	for range 150 {
		e := r.element(3)
		list = append(list, e)
		if v := variants(e); len(v) > 0 {
			list = append(list, v[r.Intn(len(v))])
		}
	}
	encodings := make([][]byte, len(list))
	for i, e := range list {
		if size := elements.Size(e); size > 0 {
			encodings[i] = encode(t, e)
		}
	}
	for i, a := range list {
		for k, b := range list {
			if got, want := elements.Compare(a, b), bytes.Compare(encodings[i], encodings[k]); got != want {
				t.Errorf("Compare(%x, %x): %d, want %d", brief(encodings[i]), brief(encodings[k]), got, want)
			}
		}
	}
}

func TestCompareOfKnownOrder(t *testing.T) {
	number := func(b ...byte) api.Element { return api.Element{Tag: api.Tag{Number: api.TagInteger}, Bytes: b} }
	// By their first byte that differs, not by their values or sizes; lengths come before contents.
	ascending := []api.Element{
		zero,
		number(),
		number(0),
		number(1),
		number(0xff),
		number(0, 0),
		number(1, 0),
		null,
		seq(),
		seq(number(5, 5)),
		seq(null, null),
		{Tag: api.Tag{Number: api.TagSet, Constructed: true}},
		{Tag: api.Tag{Class: api.Application, Number: 1}},
		{Tag: api.Tag{Class: api.Context, Number: 30}},
		{Tag: api.Tag{Class: api.Context, Number: 31}},
		{Tag: api.Tag{Class: api.Context, Constructed: true}},
		{Tag: api.Tag{Class: api.Private, Number: 1}},
	}
	for i, a := range ascending {
		for k, b := range ascending {
			want := min(max(i-k, -1), 1)
			if got := elements.Compare(a, b); got != want {
				t.Errorf("Compare(%d, %d): %d, want %d", i, k, got, want)
			}
		}
	}
	for _, x := range invalid {
		if elements.Compare(x.e, null) != -1 || elements.Compare(null, x.e) != 1 || elements.Compare(x.e, zero) != 0 || elements.Compare(x.e, x.e) != 0 {
			t.Errorf("%s: it does not count as empty", x.name)
		}
	}
	for i, e := range large() {
		if elements.Compare(e, null) != -1 || elements.Compare(null, e) != 1 || elements.Compare(e, zero) != 0 {
			t.Errorf("large element %d: it does not count as empty", i)
		}
	}
}

// P4.6

func TestAt(t *testing.T) {
	for i, e := range valid() {
		var walk func(sub api.Element, path []int)
		walk = func(sub api.Element, path []int) {
			kept := append([]int(nil), path...)
			if got, err := elements.At(e, path); err != api.OK || !samples.Equal(got, sub) {
				t.Errorf("element %d, path %v: error %d", i, path, err)
			}
			for k := range path {
				if path[k] != kept[k] {
					t.Fatalf("At changed its argument: %v, was %v", path, kept)
				}
			}
			for _, k := range []int{-1, len(sub.Subs), len(sub.Subs) + 1, math.MaxInt, math.MinInt} {
				if got, err := elements.At(e, append(path, k)); err != api.ErrNone || !samples.IsZero(got) {
					t.Errorf("element %d, path %v and %d: error %d", i, path, k, err)
				}
				if got, err := elements.At(e, append(path, k, 0)); err != api.ErrNone || !samples.IsZero(got) {
					t.Errorf("element %d, path %v, %d and 0: error %d", i, path, k, err)
				}
			}
			for k, x := range sub.Subs {
				if k < 3 || k == len(sub.Subs)-1 {
					walk(x, append(path, k))
				}
			}
		}
		if i%4 == 0 || i < 20 {
			walk(e, nil)
		}
	}
}

func TestAtOfInvalidElements(t *testing.T) {
	for _, x := range invalid {
		// The element is checked as a whole, wherever the path leads.
		for _, path := range [][]int{nil, {}, {0}, {0, 0}, {1}, {-1}, {math.MaxInt}} {
			if e, err := elements.At(x.e, path); err != x.err || !samples.IsZero(e) {
				t.Errorf("%s, path %v: error %d, want %d", x.name, path, err, x.err)
			}
		}
	}
	long := make([]int, 100000)
	if _, err := elements.At(nest(seq(), 15), long); err != api.ErrNone {
		t.Errorf("a long path: error %d", err)
	}
	if e, err := elements.At(seq(null, blob(1<<20)), []int{1}); err != api.OK || len(e.Bytes) != 1<<20 {
		t.Errorf("a valid element that is too large for Put: error %d", err)
	}
}

// P4.7

func TestGetInvertsPut(t *testing.T) {
	for i, e := range append(valid(), largest()...) {
		b, err := elements.Put(e)
		if err != api.OK {
			t.Fatalf("%d: Put: error %d", i, err)
		}
		got, at, err := elements.Get(b)
		if err != api.OK || at != 0 || !elements.Same(got, e) {
			t.Errorf("%d: Get(Put): error %d at %d", i, err, at)
		}
		if again, err := elements.Put(got); err != api.OK || !bytes.Equal(again, b) {
			t.Errorf("%d: Put(Get(Put)): error %d", i, err)
		}
	}
}

func TestGottenElementsHaveTheEncodingsThatWereRead(t *testing.T) {
	for b := range inputs {
		e, size, at, err := elements.Next(b)
		if err != api.OK {
			if at < 0 || at > len(b) || size != 0 || !samples.IsZero(e) {
				t.Fatalf("Next(%x): size %d, error %d at %d", b, size, err, at)
			}
			continue
		}
		back, err := elements.Put(e)
		if err != api.OK || !bytes.Equal(back, b[:size]) || elements.Size(e) != size {
			t.Fatalf("Next(%x): size %d; Put: %x, error %d", b, size, back, err)
		}
	}
}

func TestPrefixesAreShort(t *testing.T) {
	for _, e := range valid() {
		b := encode(t, e)
		for n := 0; n < len(b); n += 1 + len(b)/500 {
			checkFault(t, b[:n], n, api.ErrShort)
			checkFault(t, b[:n:n], n, api.ErrShort)
		}
	}
}

func TestSameIsEqualityOfEncodings(t *testing.T) {
	list := append(valid()[:200], zero, mixed, alien)
	encodings := make([][]byte, len(list))
	for i, e := range list {
		encodings[i], _ = elements.Put(e)
	}
	for i, a := range list {
		for k, b := range list {
			want := len(encodings[i]) > 0 && bytes.Equal(encodings[i], encodings[k])
			if elements.Same(a, b) != want {
				t.Errorf("Same(%d, %d): %t", i, k, !want)
			}
		}
	}
}

// Examples of the chapter

func TestExamples(t *testing.T) {
	e, at, err := elements.Get(chapterE)
	if err != api.OK || at != 0 || !samples.Equal(e, seq(seven, null)) {
		t.Errorf("Get(E): %v, error %d at %d", e, err, at)
	}
	if elements.Count(e) != 3 || elements.Depth(e) != 2 {
		t.Errorf("Count(E): %d, Depth(E): %d", elements.Count(e), elements.Depth(e))
	}
	if got, err := elements.At(e, []int{1}); err != api.OK || !samples.Equal(got, null) {
		t.Errorf("At(E, 1): %v, error %d", got, err)
	}
	twice := []byte{5, 0, 5, 0}
	if e, size, at, err := elements.Next(twice); err != api.OK || at != 0 || size != 2 || !samples.Equal(e, null) {
		t.Errorf("Next(%x): size %d, error %d at %d", twice, size, err, at)
	}
	if e, at, err := elements.Get(twice); err != api.ErrTrail || at != 2 || !samples.IsZero(e) {
		t.Errorf("Get(%x): error %d at %d", twice, err, at)
	}
	checkFault(t, []byte{0x30, 5, 2, 1, 7}, 5, api.ErrShort)
	checkFault(t, []byte{0x30, 3, 2, 2, 7}, 5, api.ErrShort)
	checkFault(t, []byte{0x30, 0x80, 0, 0}, 1, api.ErrLength)
	checkFault(t, []byte{0x30, 2, 0, 0}, 2, api.ErrTag)
	checkFault(t, []byte{0x30, 1, 5}, 3, api.ErrShort)
	checkFault(t, nil, 0, api.ErrShort)
	if err := elements.Check(api.Element{Tag: octets, Subs: []api.Element{null}}); err != api.ErrArg {
		t.Errorf("Check(primitive with Subs): error %d", err)
	}
	if got, err := elements.At(e, []int{2}); err != api.ErrNone || !samples.IsZero(got) {
		t.Errorf("At(E, 2): error %d", err)
	}
	if got := elements.Compare(null, e); got != -1 {
		t.Errorf("Compare(NULL, E): %d", got)
	}
}

// R4

func TestResultsAreNewMemory(t *testing.T) {
	for i, e := range valid() {
		want := encode(t, e)
		first, _ := elements.Put(e)
		for k := range first {
			first[k] ^= 0xff
		}
		if b, _ := elements.Put(e); !bytes.Equal(b, want) {
			t.Errorf("%d: Put: results share memory", i)
		}
		b := bytes.Clone(want)
		one, _, _ := elements.Get(b)
		two, _, _, _ := elements.Next(b)
		three, _ := elements.At(two, nil)
		four, _ := elements.At(two, nil)
		five, _ := elements.At(e, nil)
		if slices.ContainsFunc([]api.Element{one, two, three, four, five}, samples.HasSpare) {
			t.Errorf("%d: an element has spare capacity", i)
		}
		for k, x := range []api.Element{one, three, two, five} {
			samples.Spoil(x)
			if !bytes.Equal(b, want) {
				t.Fatalf("%d: element %d shares memory with the encoding", i, k)
			}
			if !samples.Equal(four, e) || k < 2 && !samples.Equal(two, e) {
				t.Fatalf("%d: element %d shares memory with another one", i, k)
			}
		}
		if !bytes.Equal(encode(t, e), want) {
			t.Fatalf("%d: the argument was changed", i)
		}
	}
}

func TestPartsOfAResultShareNoMemory(t *testing.T) {
	shared := seq(seven, seven)
	e, err := elements.At(seq(shared, shared, seven), nil)
	if err != api.OK {
		t.Fatalf("error %d", err)
	}
	samples.Spoil(e.Subs[0])
	if !samples.Equal(e.Subs[1], shared) || !samples.Equal(e.Subs[2], seven) || !samples.Equal(shared, seq(seven, seven)) || seven.Bytes[0] != 7 {
		t.Errorf("parts share memory: %v", e)
	}
	spare := append(make([]byte, 0, 100), 1, 2, 3)
	subs := append(make([]api.Element, 0, 100), api.Element{Tag: octets, Bytes: spare}, null)
	e, _ = elements.At(api.Element{Tag: sequence, Subs: subs}, nil)
	if samples.HasSpare(e) {
		t.Error("spare capacity")
	}
}
