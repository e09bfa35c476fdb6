package tags_test

import (
	"bytes"
	"encoding/asn1"
	"math"
	"math/rand"
	"strconv"
	"strings"
	"testing"

	"vidimus/api"
	"vidimus/tags"
)

// repeat returns n bytes b.
func repeat(b byte, n int) []byte { return bytes.Repeat([]byte{b}, n) }

// numbers lists numbers of tags on both sides of the limits of forms and groups, and others of every size.
func numbers() []uint32 {
	list := []uint32{tags.MaxNumber - 1, tags.MaxNumber}
	for n := range uint32(300) {
		list = append(list, n)
	}
	for _, k := range []int{13, 14, 20, 21, 27} {
		list = append(list, 1<<k-1, 1<<k, 1<<k+1)
	}
	random := rand.New(rand.NewSource(1))
	for k := 9; k < 28; k++ {
		list = append(list, 1<<k|random.Uint32()>>(32-k))
	}
	return list
}

// valid lists tags that are valid.
func valid() []api.Tag {
	var list []api.Tag
	for class := api.Universal; class <= api.Private; class++ {
		for _, n := range numbers() {
			for _, constructed := range []bool{false, true} {
				if class == api.Universal && (n == 0 || (n == 16 || n == 17) && !constructed) {
					continue
				}
				list = append(list, api.Tag{Class: class, Constructed: constructed, Number: n})
			}
		}
	}
	return list
}

// invalid lists tags that are not valid, with the error of Check.
var invalid = []struct {
	t api.Tag
	e api.Errno
}{
	{api.Tag{}, api.ErrTag},
	{api.Tag{Constructed: true}, api.ErrTag},
	{api.Tag{Number: api.TagSequence}, api.ErrTag},
	{api.Tag{Number: api.TagSet}, api.ErrTag},
	{api.Tag{Class: 4, Number: 5}, api.ErrArg},
	{api.Tag{Class: 4}, api.ErrArg},
	{api.Tag{Class: 4, Number: api.TagSequence}, api.ErrArg},
	{api.Tag{Class: 255, Constructed: true, Number: math.MaxUint32}, api.ErrArg},
	{api.Tag{Number: tags.MaxNumber + 1}, api.ErrArg},
	{api.Tag{Number: 1<<28 | api.TagSequence}, api.ErrArg},
	{api.Tag{Class: api.Application, Number: tags.MaxNumber + 1}, api.ErrArg},
	{api.Tag{Class: api.Context, Constructed: true, Number: 1 << 31}, api.ErrArg},
	{api.Tag{Class: api.Private, Number: math.MaxUint32}, api.ErrArg},
}

// octets returns the identifier octets that another implementation writes.
func octets(t *testing.T, tag api.Tag) []byte {
	t.Helper()
	b, err := asn1.Marshal(asn1.RawValue{Class: int(tag.Class), Tag: int(tag.Number), IsCompound: tag.Constructed})
	if err != nil {
		t.Fatal(err)
	}
	return b[:len(b)-1] // without the length of an element without content
}

// P2.1

func TestCheck(t *testing.T) {
	if tags.MaxNumber != 268435455 {
		t.Errorf("MaxNumber: %d", tags.MaxNumber)
	}
	for _, tag := range valid() {
		if e := tags.Check(tag); e != api.OK {
			t.Errorf("Check(%v): error %d", tag, e)
		}
	}
	for _, x := range invalid {
		if e := tags.Check(x.t); e != x.e {
			t.Errorf("Check(%v): error %d, want %d", x.t, e, x.e)
		}
	}
}

func TestCheckOfAllClasses(t *testing.T) {
	for class := range 256 {
		want := api.OK
		if class > 3 {
			want = api.ErrArg
		}
		if e := tags.Check(api.Tag{Class: api.Class(class), Number: 1}); e != want {
			t.Errorf("class %d: error %d, want %d", class, e, want)
		}
	}
}

// P2.2

func TestPutAndSize(t *testing.T) {
	for _, tag := range valid() {
		want := octets(t, tag)
		b, e := tags.Put(tag)
		if e != api.OK || !bytes.Equal(b, want) {
			t.Errorf("Put(%v): %x, error %d, want %x", tag, b, e, want)
		}
		if cap(b) != len(b) {
			t.Errorf("Put(%v): %d octets with the capacity %d", tag, len(b), cap(b))
		}
		if n := tags.Size(tag); n != len(want) {
			t.Errorf("Size(%v): %d, want %d", tag, n, len(want))
		}
	}
}

func TestPutAndSizeOfInvalidTags(t *testing.T) {
	for _, x := range invalid {
		if b, e := tags.Put(x.t); e != x.e || len(b) > 0 {
			t.Errorf("Put(%v): %x, error %d, want error %d", x.t, b, e, x.e)
		}
		if n := tags.Size(x.t); n != 0 {
			t.Errorf("Size(%v): %d", x.t, n)
		}
	}
}

// P2.3

func TestGet(t *testing.T) {
	for _, tag := range valid() {
		want := octets(t, tag)
		for _, tail := range [][]byte{nil, {0}, {0x7f}, {0x80}, repeat(255, 9)} {
			got, n, e := tags.Get(append(bytes.Clone(want), tail...))
			if got != tag || n != len(want) || e != api.OK {
				t.Errorf("Get(%x, then %x): %v, %d octets, error %d", want, tail, got, n, e)
			}
		}
	}
}

func TestGetErrors(t *testing.T) {
	for _, x := range []struct {
		b []byte
		e api.Errno
	}{
		{nil, api.ErrShort},
		{[]byte{}, api.ErrShort},
		{[]byte{0x1f}, api.ErrShort},
		{[]byte{0xff}, api.ErrShort},
		{[]byte{0x9f, 0x81}, api.ErrShort},
		{[]byte{0x9f, 0x81, 0x80}, api.ErrShort},
		{[]byte{0x9f, 0x81, 0x80, 0x80}, api.ErrShort},
		{[]byte{0x9f, 0xff, 0xff, 0xff}, api.ErrShort},
		// The first group is 0: no other octet is read.
		{[]byte{0x9f, 0x80}, api.ErrTag},
		{[]byte{0x9f, 0x80, 0x01}, api.ErrTag},
		{[]byte{0x9f, 0x80, 0x80, 0x80, 0x80}, api.ErrTag},
		{[]byte{0x1f, 0x80, 0x1f}, api.ErrTag},
		{[]byte{0x9f, 0x80, 0x81, 0x00}, api.ErrTag},
		// The fourth group is not the last one: no other octet is read.
		{[]byte{0x9f, 0x81, 0x80, 0x80, 0x80}, api.ErrTag},
		{[]byte{0x9f, 0x81, 0x80, 0x80, 0x80, 0x00}, api.ErrTag},
		{[]byte{0xff, 0xff, 0xff, 0xff, 0xff, 0x7f}, api.ErrTag},
		{[]byte{0x9f, 0x90, 0x80, 0x80, 0x80, 0x01}, api.ErrTag},
		// The number needs no groups.
		{[]byte{0x9f, 0x00}, api.ErrTag},
		{[]byte{0x9f, 0x01}, api.ErrTag},
		{[]byte{0x9f, 0x1e}, api.ErrTag},
		{[]byte{0x1f, 0x1e}, api.ErrTag},
		{[]byte{0x3f, 0x10}, api.ErrTag},
		// The tag is not valid.
		{[]byte{0x00}, api.ErrTag},
		{[]byte{0x00, 0x00}, api.ErrTag},
		{[]byte{0x20}, api.ErrTag},
		{[]byte{0x10}, api.ErrTag},
		{[]byte{0x11, 0x05}, api.ErrTag},
	} {
		if tag, n, e := tags.Get(x.b); e != x.e || n != 0 || tag != (api.Tag{}) {
			t.Errorf("Get(%x): %v, %d octets, error %d, want error %d", x.b, tag, n, e, x.e)
		}
	}
}

func TestGetOfShortInputs(t *testing.T) {
	for _, tag := range valid() {
		b := octets(t, tag)
		for n := range b {
			got, size, e := tags.Get(b[:n])
			if e != api.ErrShort || size != 0 || got != (api.Tag{}) {
				t.Errorf("Get(%x): %v, %d octets, error %d", b[:n], got, size, e)
			}
		}
	}
}

// P2.4

func TestCompare(t *testing.T) {
	ascending := []api.Tag{
		{},
		{Constructed: true},
		{Number: 1},
		{Number: 16},
		{Number: 16, Constructed: true},
		{Number: 17},
		{Number: math.MaxUint32, Constructed: true},
		{Class: api.Application},
		{Class: api.Application, Number: 30, Constructed: true},
		{Class: api.Application, Number: 31},
		{Class: api.Context, Number: tags.MaxNumber},
		{Class: api.Context, Number: tags.MaxNumber, Constructed: true},
		{Class: api.Context, Number: tags.MaxNumber + 1},
		{Class: api.Private, Number: 1 << 31},
		{Class: 4, Number: 3},
		{Class: 200},
		{Class: 255, Number: math.MaxUint32},
		{Class: 255, Number: math.MaxUint32, Constructed: true},
	}
	for i, a := range ascending {
		for k, b := range ascending {
			want := min(max(i-k, -1), 1)
			if got := tags.Compare(a, b); got != want {
				t.Errorf("Compare(%v, %v): %d, want %d", a, b, got, want)
			}
		}
	}
}

// P2.5

func TestTextAndParse(t *testing.T) {
	names := []string{"universal", "application", "context", "private"}
	for _, tag := range valid() {
		want := names[tag.Class] + " " + strconv.Itoa(int(tag.Number))
		if tag.Constructed {
			want += " constructed"
		}
		if got := tags.Text(tag); got != want {
			t.Errorf("Text(%v): %q, want %q", tag, got, want)
		}
		if got, e := tags.Parse(want); got != tag || e != api.OK {
			t.Errorf("Parse(%q): %v, error %d", want, got, e)
		}
	}
	for _, x := range invalid {
		if got := tags.Text(x.t); got != "?" {
			t.Errorf("Text(%v): %q", x.t, got)
		}
	}
}

func TestParseErrors(t *testing.T) {
	forms := []string{
		"", " ", "?", "context", "context ", " 7", "7", "constructed", "context constructed",
		"context 7 ", "context  7", " context 7", "context\t7", "context 7\n", "context7", "7 context",
		"context 7 Constructed", "context 7 constructed ", "context 7  constructed", "context 7 constructe", "context 7 primitive", "context 7 constructed constructed", "context 7constructed",
		"Context 7", "CONTEXT 7", "kontext 7", "contex 7", "contextual 7", "2 7",
		"context 07", "context 00", "context 00 constructed", "context +7", "context -7", "context -0", "context 7.0", "context 0x7", "context 1_0", "context 7e0", "context ٧", "context 7\x00", "context 7\xff",
		"context 268435456", "private 268435456 constructed", "context 4294967295", "context 4294967296", "context 4294967303", "context 18446744073709551616", "context 18446744073709551623",
		"context " + strings.Repeat("9", 1000), "context " + strings.Repeat("0", 1000) + "7", strings.Repeat("context ", 1000),
		// The form is wrong, whatever the tag would be.
		"universal 00", "universal 016", "universal 0 ", "universal 268435456",
	}
	for _, s := range forms {
		if tag, e := tags.Parse(s); e != api.ErrForm || tag != (api.Tag{}) {
			t.Errorf("Parse(%q): %v, error %d", s, tag, e)
		}
	}
	for _, s := range []string{"universal 0", "universal 0 constructed", "universal 16", "universal 17"} {
		if tag, e := tags.Parse(s); e != api.ErrTag || tag != (api.Tag{}) {
			t.Errorf("Parse(%q): %v, error %d", s, tag, e)
		}
	}
}

// P2.6

func TestGetInvertsPut(t *testing.T) {
	for _, tag := range valid() {
		b, e := tags.Put(tag)
		if e != api.OK {
			t.Fatalf("Put(%v): error %d", tag, e)
		}
		for next := range 256 {
			got, n, e := tags.Get(append(bytes.Clone(b), byte(next), 0x85))
			if got != tag || n != len(b) || e != api.OK {
				t.Fatalf("Get(%x, then %x): %v, %d octets, error %d", b, next, got, n, e)
			}
		}
	}
}

// inputs yields all inputs of up to three octets, and random ones of up to seven, most of which have groups.
func inputs(yield func(b []byte) bool) {
	for size := range 4 {
		for i := range 1 << (8 * size) {
			if !yield([]byte{byte(i >> 16), byte(i >> 8), byte(i)}[3-size:]) {
				return
			}
		}
	}
	random := rand.New(rand.NewSource(2))
	for range 1 << 18 {
		b := make([]byte, 1+random.Intn(7))
		random.Read(b)
		b[0] |= 0x1f
		for i := 1; i < len(b) && random.Intn(8) > 0; i++ {
			b[i] |= 0x80
		}
		if !yield(b) {
			return
		}
	}
}

func TestGottenTagsHaveTheOctetsThatWereRead(t *testing.T) {
	for b := range inputs {
		tag, n, e := tags.Get(b)
		if e != api.OK {
			if e != api.ErrShort && e != api.ErrTag || n != 0 || tag != (api.Tag{}) {
				t.Fatalf("Get(%x): %v, %d octets, error %d", b, tag, n, e)
			}
			continue
		}
		if back, e := tags.Put(tag); n < 1 || n > len(b) || e != api.OK || !bytes.Equal(back, b[:n]) || tags.Size(tag) != n {
			t.Fatalf("Get(%x): %v, %d octets; Put: %x, error %d", b, tag, n, back, e)
		}
	}
}

func TestOctetsAreNoPrefixes(t *testing.T) {
	list := valid()
	all := make([][]byte, len(list))
	for i, tag := range list {
		b, e := tags.Put(tag)
		if e != api.OK {
			t.Fatalf("Put(%v): error %d", tag, e)
		}
		all[i] = b
	}
	for i, a := range all {
		for k, b := range all {
			if i != k && bytes.HasPrefix(a, b) {
				t.Errorf("%v has the octets %x, which begin those of %v: %x", list[k], b, list[i], a)
			}
		}
	}
}

func TestParseInvertsText(t *testing.T) {
	for _, tag := range valid() {
		s := tags.Text(tag)
		got, e := tags.Parse(s)
		if got != tag || e != api.OK {
			t.Errorf("Parse(%q): %v, error %d", s, got, e)
		}
		if back := tags.Text(got); back != s {
			t.Errorf("Text(Parse(%q)): %q", s, back)
		}
	}
}

// Examples of the chapter

func TestExamples(t *testing.T) {
	for _, x := range []struct {
		t api.Tag
		b []byte
	}{
		{api.Tag{Constructed: true, Number: 16}, []byte{0x30}},
		{api.Tag{Class: api.Context, Number: 3}, []byte{0x83}},
		{api.Tag{Class: api.Private, Number: 31}, []byte{0xdf, 0x1f}},
		{api.Tag{Class: api.Application, Constructed: true, Number: 200}, []byte{0x7f, 0x81, 0x48}},
	} {
		if b, e := tags.Put(x.t); e != api.OK || !bytes.Equal(b, x.b) {
			t.Errorf("Put(%v): %x, error %d", x.t, b, e)
		}
	}
	for _, x := range []struct {
		b []byte
		t api.Tag
		n int
		e api.Errno
	}{
		{[]byte{0x30, 0x05}, api.Tag{Constructed: true, Number: 16}, 1, api.OK},
		{[]byte{0xdf, 0x1f}, api.Tag{Class: api.Private, Number: 31}, 2, api.OK},
		{[]byte{0x9f, 0x81}, api.Tag{}, 0, api.ErrShort},
		{[]byte{0x9f, 0x80, 0x01}, api.Tag{}, 0, api.ErrTag},
		{[]byte{0x9f, 0x1e}, api.Tag{}, 0, api.ErrTag},
		{[]byte{0x00}, api.Tag{}, 0, api.ErrTag},
	} {
		if tag, n, e := tags.Get(x.b); tag != x.t || n != x.n || e != x.e {
			t.Errorf("Get(%x): %v, %d octets, error %d", x.b, tag, n, e)
		}
	}
	if e := tags.Check(api.Tag{Number: 17}); e != api.ErrTag {
		t.Errorf("Check(universal 17): error %d", e)
	}
	if e := tags.Check(api.Tag{Class: 4}); e != api.ErrArg {
		t.Errorf("Check(class 4): error %d", e)
	}
	if b, e := tags.Put(api.Tag{Class: api.Context, Number: 268435455}); e != api.OK || len(b) != 5 {
		t.Errorf("Put(context 268435455): %d octets, error %d", len(b), e)
	}
	if s := tags.Text(api.Tag{Class: api.Context, Constructed: true}); s != "context 0 constructed" {
		t.Errorf("Text(context 0 constructed): %q", s)
	}
	for _, x := range []struct {
		s string
		t api.Tag
		e api.Errno
	}{
		{"private 7", api.Tag{Class: api.Private, Number: 7}, api.OK},
		{"private 07", api.Tag{}, api.ErrForm},
		{"universal 0", api.Tag{}, api.ErrTag},
	} {
		if tag, e := tags.Parse(x.s); tag != x.t || e != x.e {
			t.Errorf("Parse(%q): %v, error %d", x.s, tag, e)
		}
	}
}

// R4

func TestResultsAreNewMemory(t *testing.T) {
	for _, tag := range []api.Tag{{Number: 5}, {Class: api.Application, Number: 200}, {Class: api.Context, Number: tags.MaxNumber}} {
		first, _ := tags.Put(tag)
		want := bytes.Clone(first)
		for i := range first {
			first[i] ^= 0xff
		}
		if second, _ := tags.Put(tag); !bytes.Equal(second, want) {
			t.Errorf("Put(%v): results share memory", tag)
		}
		kept := bytes.Clone(want)
		if tags.Get(kept); !bytes.Equal(kept, want) {
			t.Errorf("Get changed its argument: %x", kept)
		}
	}
}
