package bitstrings_test

import (
	"bytes"
	"encoding/asn1"
	"fmt"
	"math"
	"math/rand"
	"slices"
	"strings"
	"testing"

	"vidimus/api"
	"vidimus/bitstrings"
	"vidimus/elements"
	"vidimus/samples"
)

// maxBits is the limit of the chapter.
const maxBits = 524288

// digits returns the bits of b as text, the most significant one of the first byte first.
func digits(b []byte) string {
	var text strings.Builder
	for _, octet := range b {
		fmt.Fprintf(&text, "%08b", octet)
	}
	return text.String()
}

// packed returns the bytes of bits that are given as text, the last one filled up with 0.
func packed(text string) []byte {
	b := make([]byte, needed(len(text)))
	for i, digit := range text + strings.Repeat("0", 8*len(b)-len(text)) {
		b[i/8] = 2*b[i/8] + byte(digit-'0')
	}
	return b
}

// zeros reports whether a text has no other digit than 0.
func zeros(text string) bool {
	return strings.Trim(text, "0") == ""
}

// needed returns the number of bytes that n bits need.
func needed(n int) int {
	return int(math.Ceil(float64(n) / 8))
}

// wantCheck returns the error of a bit string after the chapter; bits is b as text.
func wantCheck(b []byte, bits string, n int) api.Errno {
	switch {
	case n < 0:
		return api.ErrArg
	case n > maxBits:
		return api.ErrLimit
	case len(b) != needed(n):
		return api.ErrArg
	case !zeros(bits[n:]):
		return api.ErrArg
	}
	return api.OK
}

// wantGet returns the bit string with content octets, as text, and its error after the chapter.
func wantGet(c []byte) (string, api.Errno) {
	switch {
	case len(c) == 0:
		return "", api.ErrValue
	case c[0] > 7:
		return "", api.ErrValue
	case c[0] != 0 && len(c) == 1:
		return "", api.ErrValue
	}
	text := digits(c[1:])
	n := len(text) - int(c[0])
	switch {
	case !zeros(text[n:]):
		return "", api.ErrValue
	case n > maxBits:
		return "", api.ErrLimit
	}
	return text[:n], api.OK
}

// wantGetNamed returns the list of named bits with content octets, and its error after the chapter.
func wantGetNamed(c []byte) (uint64, api.Errno) {
	text, e := wantGet(c)
	if e == api.ErrValue {
		return 0, e
	}
	if e == api.ErrLimit { // there is a last bit, but wantGet does not return it
		text = digits(c[1:])
		text = text[:len(text)-int(c[0])]
	}
	if strings.HasSuffix(text, "0") {
		return 0, api.ErrValue
	}
	if len(text) > 64 {
		return 0, api.ErrLimit
	}
	var w uint64
	for k, digit := range text {
		if digit == '1' {
			w += uint64(math.Pow(2, float64(k)))
		}
	}
	return w, api.OK
}

// namedText returns the bit string of a list of named bits as text.
func namedText(w uint64) string {
	var text strings.Builder
	for ; w > 0; w /= 2 {
		text.WriteByte('0' + byte(w%2))
	}
	return text.String()
}

// bitTexts lists the bits of valid bit strings: all of up to nine bits, and longer ones of many lengths.
func bitTexts() []string {
	list := []string{""}
	for i := 0; len(list[i]) < 9; i++ {
		list = append(list, list[i]+"0", list[i]+"1")
	}
	random := rand.New(rand.NewSource(1))
	for n := 10; n <= 300; n++ {
		mixed := make([]byte, n)
		for i := range mixed {
			mixed[i] = '0' + byte(random.Intn(2))
		}
		list = append(list,
			strings.Repeat("0", n), strings.Repeat("1", n),
			strings.Repeat("0", n-1)+"1", "1"+strings.Repeat("0", n-1), string(mixed))
	}
	return list
}

// longLengths lists numbers of bits on both sides of the limit, and below the greatest one.
func longLengths() []int {
	return []int{65535, 65536, 65537, 262143, 262144, maxBits - 16, maxBits - 9, maxBits - 8, maxBits - 7, maxBits - 6, maxBits - 1, maxBits, maxBits + 1, maxBits + 2, maxBits + 7, maxBits + 8, maxBits + 9, 2 * maxBits, 16 * maxBits}
}

// namedLists lists lists of named bits: none, one, two or all but one, the first or last ones, and others.
func namedLists() []uint64 {
	list := []uint64{0}
	random := rand.New(rand.NewSource(2))
	for k := range 64 {
		list = append(list, 1<<k, 1<<k-1, ^uint64(0)<<k, ^(uint64(1) << k), random.Uint64()>>k, random.Uint64()<<k)
		for j := range k {
			list = append(list, 1<<k|1<<j)
		}
	}
	return list
}

// long returns octets that are 0, except for the first and the last one.
func long(size int, first, last byte) []byte {
	c := make([]byte, size)
	c[0], c[size-1] = first, last
	return c
}

// contents lists content octets that are valid for some functions and not for others, and some that are valid for none.
func contents() [][]byte {
	list := [][]byte{
		nil, {}, {0}, {1}, {7}, {8}, {0xff}, {0, 0}, {0, 1}, {1, 0}, {1, 1}, {1, 2}, {7, 0x80}, {7, 0x40}, {8, 0}, {0xf8, 0, 0},
		{0, 1, 1}, {3, 1, 8}, {3, 1, 4}, {7, 0xff, 0x80}, {7, 0xff, 0}, {8, 0xff, 0}, {4, 0, 0, 0, 0, 0, 0, 0, 0, 0xf0},
	}
	for _, size := range []int{9, 10, 11, 65537, 65538, 65539} {
		for _, first := range []byte{0, 1, 7, 8, 9, 0xff} {
			for _, last := range []byte{0, 1, 2, 0x40, 0x80} {
				list = append(list, long(size, first, last))
			}
		}
	}
	return list
}

// checkExact checks that a result has no spare capacity.
func checkExact(t *testing.T, call string, b []byte) {
	t.Helper()
	if cap(b) != len(b) {
		t.Errorf("%s: %d bytes with the capacity %d", call, len(b), cap(b))
	}
}

// P8.1

// checkCheck compares Check with its definition for many numbers of bits.
func checkCheck(t *testing.T, b []byte) {
	t.Helper()
	bits := digits(b)
	for n := -2; n <= 8*len(b)+10; n++ {
		if e, want := bitstrings.Check(b, n), wantCheck(b, bits, n); e != want {
			t.Errorf("Check(%x, %d): error %d, want %d", b, n, e, want)
		}
	}
}

func TestCheck(t *testing.T) {
	check := func(b []byte) { checkCheck(t, b) }
	samples.Lists(samples.Octets(), 1, check)
	samples.Lists([]byte{0, 1, 2, 8, 0x10, 0x40, 0x80, 0xc0, 0xff}, 4, check)
	for first := range 256 {
		for second := range 256 {
			check([]byte{byte(first), byte(second)})
		}
	}
}

func TestCheckOfLongBitStrings(t *testing.T) {
	for _, n := range longLengths() {
		for _, size := range []int{0, 1, n/8 - 1, n / 8, n/8 + 1, n/8 + 2} {
			b := make([]byte, size)
			if size > 0 {
				b[0] = 0xff
			}
			want := api.OK
			if n > maxBits {
				want = api.ErrLimit
			} else if size != needed(n) {
				want = api.ErrArg
			}
			if e := bitstrings.Check(b, n); e != want {
				t.Errorf("Check(%d bytes, %d): error %d, want %d", size, n, e, want)
			}
			if size == 0 || want != api.OK {
				continue
			}
			for i := range 8 {
				b[size-1] = 1 << i
				want := api.OK
				if 8*size-1-i >= n {
					want = api.ErrArg
				}
				if e := bitstrings.Check(b, n); e != want {
					t.Errorf("Check(%d bytes, the last one %x, %d): error %d, want %d", size, b[size-1], n, e, want)
				}
			}
		}
	}
}

// TestCheckErrors has one case for each error, and for each two of which one comes first.
func TestCheckErrors(t *testing.T) {
	for _, x := range []struct {
		b []byte
		n int
		e api.Errno
	}{
		{nil, -1, api.ErrArg},
		{[]byte{0}, -1, api.ErrArg},
		{[]byte{0}, -8, api.ErrArg},
		{make([]byte, 65537), -1, api.ErrArg},
		{nil, math.MinInt, api.ErrArg},
		{nil, math.MinInt + 7, api.ErrArg},
		{[]byte{0xff}, math.MinInt, api.ErrArg},
		{make([]byte, 65537), maxBits + 1, api.ErrLimit},
		{nil, maxBits + 1, api.ErrLimit},
		{make([]byte, 65536), maxBits + 1, api.ErrLimit},
		{bytes.Repeat([]byte{0xff}, 65537), maxBits + 1, api.ErrLimit},
		{nil, math.MaxInt, api.ErrLimit},
		{nil, math.MaxInt - 7, api.ErrLimit},
		{[]byte{0}, 1 << 32, api.ErrLimit},
		{[]byte{0}, 1<<32 + 8, api.ErrLimit},
		{nil, maxBits, api.ErrArg},
		{nil, 1, api.ErrArg},
		{[]byte{0}, 0, api.ErrArg},
		{[]byte{0xff}, 9, api.ErrArg},
		{[]byte{0xff, 0}, 8, api.ErrArg},
		{[]byte{0xff}, 7, api.ErrArg},
		{[]byte{0x80, 0x80}, 8, api.ErrArg},
	} {
		if e := bitstrings.Check(x.b, x.n); e != x.e {
			t.Errorf("Check(%d bytes, %d): error %d, want %d", len(x.b), x.n, e, x.e)
		}
	}
}

func TestMaxBits(t *testing.T) {
	if bitstrings.MaxBits != maxBits {
		t.Errorf("MaxBits: %d", bitstrings.MaxBits)
	}
}

// P8.2

func TestPut(t *testing.T) {
	for _, text := range bitTexts() {
		b := packed(text)
		want := append([]byte{byte(8*len(b) - len(text))}, b...)
		c, e := bitstrings.Put(b, len(text))
		if e != api.OK || !bytes.Equal(c, want) {
			t.Errorf("Put(%s): %x, error %d, want %x", text, c, e, want)
		}
		checkExact(t, "Put("+text+")", c)
	}
}

func TestPutAgainstAnotherImplementation(t *testing.T) {
	for _, text := range bitTexts() {
		b := packed(text)
		var other asn1.RawValue
		encoded, err := asn1.Marshal(asn1.BitString{Bytes: b, BitLength: len(text)})
		if err != nil {
			t.Fatal(err)
		}
		if _, err := asn1.Unmarshal(encoded, &other); err != nil {
			t.Fatal(err)
		}
		if c, e := bitstrings.Put(b, len(text)); e != api.OK || !bytes.Equal(c, other.Bytes) {
			t.Errorf("Put(%s): %x, error %d, want %x", text, c, e, other.Bytes)
		}
	}
}

func TestPutOfInvalidBitStrings(t *testing.T) {
	check := func(b []byte, n int) {
		want := wantCheck(b, digits(b), n)
		if want == api.OK {
			return
		}
		if c, e := bitstrings.Put(b, n); e != want || len(c) > 0 {
			t.Errorf("Put(%x, %d): %x, error %d, want error %d", b, n, c, e, want)
		}
	}
	samples.Lists([]byte{0, 1, 2, 8, 0x40, 0x80, 0xff}, 3, func(b []byte) {
		for n := -2; n <= 8*len(b)+10; n++ {
			check(b, n)
		}
		for _, n := range []int{math.MinInt, math.MinInt + 7, -8, maxBits, maxBits + 1, 1 << 32, math.MaxInt - 7, math.MaxInt} {
			check(b, n)
		}
	})
}

func TestLongBitStrings(t *testing.T) {
	for _, n := range longLengths() {
		b := bytes.Repeat([]byte{0xff}, needed(n))
		unused := 8*len(b) - n
		b[len(b)-1] = 0xff << unused
		octets := append([]byte{byte(unused)}, b...)
		c, putError := bitstrings.Put(b, n)
		got, bits, getError := bitstrings.Get(octets)
		if n > maxBits {
			if putError != api.ErrLimit || len(c) > 0 {
				t.Errorf("Put of %d bits: %d bytes, error %d, want ErrLimit", n, len(c), putError)
			}
			if getError != api.ErrLimit || len(got) > 0 || bits != 0 {
				t.Errorf("Get of %d bits: %d bytes, %d bits, error %d, want ErrLimit", n, len(got), bits, getError)
			}
			continue
		}
		if putError != api.OK || !bytes.Equal(c, octets) {
			t.Errorf("Put of %d bits: %d bytes, error %d", n, len(c), putError)
		}
		if getError != api.OK || !bytes.Equal(got, b) || bits != n {
			t.Errorf("Get of %d bits: %d bytes, %d bits, error %d", n, len(got), bits, getError)
		}
		checkExact(t, "Put", c)
		checkExact(t, "Get", got)
	}
}

// checkGet compares Get with its definition.
func checkGet(t *testing.T, c []byte) {
	t.Helper()
	want, wantError := wantGet(c)
	b, n, e := bitstrings.Get(c)
	if e != wantError || n != len(want) || !bytes.Equal(b, packed(want)) {
		t.Errorf("Get(%d octets, %x): %d bits, error %d, want %d bits, error %d", len(c), c[:min(len(c), 12)], n, e, len(want), wantError)
	}
	checkExact(t, fmt.Sprintf("Get(%x)", c[:min(len(c), 12)]), b)
}

func TestGet(t *testing.T) {
	check := func(c []byte) { checkGet(t, c) }
	samples.Lists(samples.Octets(), 2, check)
	samples.Lists([]byte{0, 1, 2, 4, 7, 8, 0x40, 0x80, 0xff}, 5, check)
	for _, c := range contents() {
		check(c)
	}
	random := rand.New(rand.NewSource(3))
	for range 20000 {
		c := make([]byte, 1+random.Intn(40))
		random.Read(c)
		c[0] = byte(random.Intn(9))
		check(c)
		c[len(c)-1] &= 0xff << c[0] // then all unused bits are 0
		check(c)
	}
}

func TestGetAgainstAnotherImplementation(t *testing.T) {
	check := func(c []byte) {
		encoded := append([]byte{3, byte(len(c))}, c...)
		var other asn1.BitString
		rest, err := asn1.Unmarshal(encoded, &other)
		b, n, e := bitstrings.Get(c)
		if (err == nil) != (e == api.OK) || len(rest) > 0 && err == nil {
			t.Errorf("Get(%x): error %d, the other implementation says %v", c, e, err)
		}
		if err == nil && (n != other.BitLength || !bytes.Equal(b, other.Bytes)) {
			t.Errorf("Get(%x): %x with %d bits, want %x with %d", c, b, n, other.Bytes, other.BitLength)
		}
	}
	samples.Lists(samples.Octets(), 2, check)
	samples.Lists([]byte{0, 1, 3, 7, 8, 0x80, 0xff}, 4, check)
}

// TestGetErrors has one case for each error, and for each two of which one comes first.
func TestGetErrors(t *testing.T) {
	for _, x := range []struct {
		c []byte
		e api.Errno
	}{
		{nil, api.ErrValue},
		{[]byte{}, api.ErrValue},
		{[]byte{8, 0}, api.ErrValue},
		{[]byte{8, 0, 0}, api.ErrValue},
		{[]byte{8}, api.ErrValue},
		{[]byte{1}, api.ErrValue},
		{[]byte{7}, api.ErrValue},
		{[]byte{1, 1}, api.ErrValue},
		{[]byte{7, 0x40}, api.ErrValue},
		{[]byte{8, 0x80}, api.ErrValue},
		{long(65538, 0, 0), api.ErrLimit},
		{long(65538, 7, 0x80), api.ErrLimit},
		{long(65538, 7, 0), api.ErrLimit},
		{long(65538, 7, 0x40), api.ErrValue},
		{long(65538, 1, 1), api.ErrValue},
		{long(65538, 8, 0), api.ErrValue},
		{long(65538, 16, 0), api.ErrValue},
		{long(65538, 255, 0), api.ErrValue},
		{long(65537, 0, 1), api.OK},
		{long(65537, 1, 2), api.OK},
		{long(1<<20+1, 0, 0), api.ErrLimit},
		{long(1<<20+1, 1, 1), api.ErrValue},
	} {
		b, n, e := bitstrings.Get(x.c)
		if e != x.e || e != api.OK && (n != 0 || len(b) > 0) {
			t.Errorf("Get(%d octets): %d bytes, %d bits, error %d, want error %d", len(x.c), len(b), n, e, x.e)
		}
	}
}

// P8.3

func TestBit(t *testing.T) {
	for _, text := range bitTexts() {
		b := packed(text)
		for i := -3; i < len(text)+20; i++ {
			want := i >= 0 && i < len(text) && text[i] == '1'
			if got := bitstrings.Bit(b, len(text), i); got != want {
				t.Errorf("Bit(%s, %d): %v", text, i, got)
			}
		}
		for _, i := range []int{math.MinInt, math.MinInt + 1, math.MinInt + 8, -1 << 32, 1 << 32, math.MaxInt - 8, math.MaxInt} {
			if bitstrings.Bit(b, len(text), i) {
				t.Errorf("Bit(%s, %d): true", text, i)
			}
		}
	}
}

func TestBitOfAllBytes(t *testing.T) {
	for octet := range 256 {
		for _, front := range [][]byte{nil, {0}, {0xff}, {0xff, 0, 0xff}} {
			b := append(slices.Clone(front), byte(octet))
			text := digits(b)
			for n := len(text) - 7; n <= len(text); n++ {
				valid := zeros(text[n:])
				for i := range text {
					want := valid && i < n && text[i] == '1'
					if got := bitstrings.Bit(b, n, i); got != want {
						t.Errorf("Bit(%x, %d, %d): %v, want %v", b, n, i, got, want)
					}
				}
			}
		}
	}
}

func TestBitOfInvalidBitStrings(t *testing.T) {
	for _, x := range []struct {
		b []byte
		n int
	}{
		{nil, 0}, {nil, -1}, {nil, 1}, {nil, 8}, {nil, maxBits}, {nil, maxBits + 1}, {nil, math.MaxInt}, {nil, math.MinInt},
		{[]byte{0xff}, -1}, {[]byte{0xff}, 0}, {[]byte{0xff}, 1}, {[]byte{0xff}, 7}, {[]byte{0xff}, 9}, {[]byte{0xff}, 16}, {[]byte{0xff}, math.MaxInt},
		{[]byte{0xff, 0xff}, 8}, {[]byte{0xff, 0}, 8}, {[]byte{0xff, 0xff}, 15}, {[]byte{0xff, 0xff}, 17},
		{bytes.Repeat([]byte{0xff}, 65537), maxBits + 1}, {bytes.Repeat([]byte{0xff}, 65537), maxBits + 8}, {bytes.Repeat([]byte{0xff}, 65537), maxBits},
	} {
		for _, i := range []int{math.MinInt, -8, -1, 0, 1, 6, 7, 8, 15, 16, maxBits - 1, maxBits, maxBits + 7, math.MaxInt} {
			if bitstrings.Bit(x.b, x.n, i) {
				t.Errorf("Bit(%d bytes, %d, %d): true", len(x.b), x.n, i)
			}
		}
	}
}

func TestBitOfLongBitStrings(t *testing.T) {
	for _, n := range []int{65535, 65536, maxBits - 1, maxBits} {
		for _, at := range []int{0, 1, 32767, 32768, 65527, n - 2, n - 1} {
			b := make([]byte, needed(n))
			b[at/8] = 128 >> (at % 8)
			for _, i := range []int{-1, 0, 1, 32767, 32768, 65527, n - 2, n - 1, n, n + 1, n + 8} {
				if got := bitstrings.Bit(b, n, i); got != (i == at) {
					t.Errorf("Bit of %d bits, of which only %d is 1, at %d: %v", n, at, i, got)
				}
			}
		}
	}
}

// P8.4

func TestElement(t *testing.T) {
	for _, text := range bitTexts() {
		b := packed(text)
		e, err := bitstrings.Element(b, len(text))
		want := append([]byte{byte(8*len(b) - len(text))}, b...)
		if err != api.OK || e.Tag != (api.Tag{Number: 3}) || !bytes.Equal(e.Bytes, want) || e.Subs != nil {
			t.Errorf("Element(%s): %v, error %d, want the content %x", text, e, err, want)
		}
		checkExact(t, "Element("+text+")", e.Bytes)
		encoded, err := elements.Put(e)
		other, fault := asn1.Marshal(asn1.BitString{Bytes: b, BitLength: len(text)})
		if err != api.OK || fault != nil || !bytes.Equal(encoded, other) {
			t.Errorf("the encoding of Element(%s): %x, error %d, want %x", text, encoded, err, other)
		}
	}
}

func TestElementOfInvalidBitStrings(t *testing.T) {
	for _, x := range []struct {
		b []byte
		n int
		e api.Errno
	}{
		{nil, -1, api.ErrArg}, {[]byte{0}, -1, api.ErrArg}, {nil, 1, api.ErrArg}, {[]byte{0}, 0, api.ErrArg}, {[]byte{0, 0}, 8, api.ErrArg}, {[]byte{1}, 7, api.ErrArg},
		{nil, maxBits, api.ErrArg}, {nil, maxBits + 1, api.ErrLimit}, {make([]byte, 65537), maxBits + 1, api.ErrLimit}, {nil, math.MaxInt, api.ErrLimit}, {nil, math.MinInt, api.ErrArg},
	} {
		e, err := bitstrings.Element(x.b, x.n)
		if err != x.e || e.Tag != (api.Tag{}) || len(e.Bytes) > 0 || len(e.Subs) > 0 {
			t.Errorf("Element(%d bytes, %d): %v, error %d, want error %d", len(x.b), x.n, e, err, x.e)
		}
	}
}

// otherTags lists tags other than the primitive universal one with a number.
func otherTags(number uint32) []api.Tag {
	var list []api.Tag
	for _, class := range []api.Class{api.Universal, api.Application, api.Context, api.Private, 4, 255} {
		for _, constructed := range []bool{false, true} {
			for _, n := range []uint32{0, 1, 2, 3, 4, 5, 6, 12, 16, 17, 1<<8 + 3, 1<<8 + 4, 1<<16 + 3, 1<<16 + 4, 1<<31 + 3, 1<<31 + 4, 1<<32 - 1} {
				list = append(list, api.Tag{Class: class, Constructed: constructed, Number: n})
			}
		}
	}
	return slices.DeleteFunc(list, func(tag api.Tag) bool { return tag == api.Tag{Number: number} })
}

// subs lists lists of elements that are not empty.
func subs() [][]api.Element {
	return [][]api.Element{{{}}, {{Tag: api.Tag{Number: 3}, Bytes: []byte{0}}}, {{Tag: api.Tag{Number: 4}}, {Tag: api.Tag{Number: 4}}}, make([]api.Element, 8193)}
}

// reader checks that a function that reads an element returns an error, and nothing else.
type reader func(t *testing.T, e api.Element, want api.Errno)

// checkOtherTags checks a reader with elements that have other tags than the universal one with a number.
func checkOtherTags(t *testing.T, number uint32, check reader) {
	t.Helper()
	for _, tag := range otherTags(number) {
		for _, c := range [][]byte{nil, {0}, {5, 0xa0}, {1, 1}, make([]byte, 65538)} {
			check(t, api.Element{Tag: tag, Bytes: c}, api.ErrTag)
			check(t, api.Element{Tag: tag, Bytes: c, Subs: subs()[0]}, api.ErrTag)
		}
	}
}

// checkSubs checks a reader with elements that have the universal tag with a number, and elements.
func checkSubs(t *testing.T, number uint32, check reader) {
	t.Helper()
	for _, list := range subs() {
		for _, c := range contents() {
			check(t, api.Element{Tag: api.Tag{Number: number}, Bytes: c, Subs: list}, api.ErrArg)
		}
	}
	list := make([]api.Element, 1)
	list[0] = api.Element{Tag: api.Tag{Number: number}, Subs: list} // it contains itself
	check(t, list[0], api.ErrArg)
	list[0].Tag.Constructed = true
	check(t, list[0], api.ErrTag)
}

// checkOf checks that Of returns an error, and nothing else.
func checkOf(t *testing.T, e api.Element, want api.Errno) {
	t.Helper()
	if b, n, err := bitstrings.Of(e); err != want || n != 0 || len(b) > 0 {
		t.Errorf("Of(tag %v, %d octets, %d elements): %d bytes, %d bits, error %d, want error %d", e.Tag, len(e.Bytes), len(e.Subs), len(b), n, err, want)
	}
}

func TestOfContents(t *testing.T) {
	check := func(c []byte) {
		want, n, wantError := bitstrings.Get(c)
		b, m, err := bitstrings.Of(api.Element{Tag: api.Tag{Number: 3}, Bytes: c, Subs: []api.Element{}})
		if err != wantError || m != n || !bytes.Equal(b, want) {
			t.Errorf("Of the content %x: %x with %d bits, error %d, want %x with %d bits, error %d", c, b, m, err, want, n, wantError)
		}
	}
	samples.Lists(samples.Octets(), 2, check)
	for _, c := range contents() {
		check(c)
	}
}

func TestOfOtherTags(t *testing.T) {
	checkOtherTags(t, 3, checkOf)
}

func TestOfSubs(t *testing.T) {
	checkSubs(t, 3, checkOf)
}

// P8.5

func TestPutNamed(t *testing.T) {
	for _, w := range namedLists() {
		text := namedText(w)
		b := packed(text)
		want := append([]byte{byte(8*len(b) - len(text))}, b...)
		c := bitstrings.PutNamed(w)
		if !bytes.Equal(c, want) {
			t.Errorf("PutNamed(%x): %x, want %x", w, c, want)
		}
		checkExact(t, fmt.Sprintf("PutNamed(%x)", w), c)
		if again, e := bitstrings.GetNamed(c); again != w || e != api.OK {
			t.Errorf("GetNamed(%x): %x, error %d, want %x", c, again, e, w)
		}
	}
}

func TestPutNamedHasTheBits(t *testing.T) {
	for _, w := range namedLists() {
		b, n, e := bitstrings.Get(bitstrings.PutNamed(w))
		if e != api.OK || n > 64 || n > 0 && !bitstrings.Bit(b, n, n-1) {
			t.Errorf("Get(PutNamed(%x)): %x with %d bits, error %d", w, b, n, e)
		}
		for k := range 64 {
			if got, want := bitstrings.Bit(b, n, k), w>>k%2 == 1; got != want {
				t.Errorf("PutNamed(%x): the bit %d is %v", w, k, got)
			}
		}
	}
}

func TestNamedAgainstAnotherImplementation(t *testing.T) {
	type flags struct {
		Bits asn1.BitString
	}
	for _, w := range namedLists() {
		var other flags
		c := bitstrings.PutNamed(w)
		encoded := slices.Concat([]byte{0x30, byte(2 + len(c)), 3, byte(len(c))}, c)
		if _, err := asn1.Unmarshal(encoded, &other); err != nil {
			t.Fatal(err)
		}
		for k := range 70 {
			if want := k < 64 && w>>k%2 == 1; other.Bits.At(k) == 1 != want {
				t.Errorf("PutNamed(%x): the bit %d is %d", w, k, other.Bits.At(k))
			}
		}
	}
}

// checkGetNamed compares GetNamed with its definition.
func checkGetNamed(t *testing.T, c []byte) {
	t.Helper()
	want, wantError := wantGetNamed(c)
	if w, e := bitstrings.GetNamed(c); w != want || e != wantError {
		t.Errorf("GetNamed(%d octets, %x): %x, error %d, want %x, error %d", len(c), c[:min(len(c), 12)], w, e, want, wantError)
	}
}

func TestGetNamed(t *testing.T) {
	check := func(c []byte) { checkGetNamed(t, c) }
	samples.Lists(samples.Octets(), 2, check)
	samples.Lists([]byte{0, 1, 2, 4, 7, 8, 0x40, 0x80, 0xff}, 4, check)
	for _, c := range contents() {
		check(c)
	}
}

func TestGetNamedOfAboutTheMostBits(t *testing.T) {
	random := rand.New(rand.NewSource(4))
	for n := 48; n <= 90; n++ {
		for unused := range 10 {
			for last := range 256 {
				c := make([]byte, 1+needed(n))
				random.Read(c)
				c[0], c[len(c)-1] = byte(unused), byte(last)
				checkGetNamed(t, c)
			}
		}
	}
}

// TestGetNamedErrors has one case for each error, and for each two of which one comes first.
func TestGetNamedErrors(t *testing.T) {
	for _, x := range []struct {
		c []byte
		w uint64
		e api.Errno
	}{
		{nil, 0, api.ErrValue},
		{[]byte{1}, 0, api.ErrValue},
		{[]byte{8}, 0, api.ErrValue},
		{[]byte{8, 0x80}, 0, api.ErrValue},
		{[]byte{1, 3}, 0, api.ErrValue},
		{[]byte{0, 0}, 0, api.ErrValue},
		{[]byte{0, 2}, 0, api.ErrValue},
		{[]byte{6, 0x80}, 0, api.ErrValue},
		{long(9, 0, 1), 1 << 63, api.OK},
		{long(9, 0, 0), 0, api.ErrValue},
		{long(10, 7, 0x80), 0, api.ErrLimit},
		{long(10, 0, 1), 0, api.ErrLimit},
		{long(10, 7, 0), 0, api.ErrValue},
		{long(10, 6, 0x80), 0, api.ErrValue},
		{long(10, 7, 0xc0), 0, api.ErrValue},
		{long(10, 8, 1), 0, api.ErrValue},
		{long(10, 8, 0), 0, api.ErrValue},
		{long(65537, 0, 1), 0, api.ErrLimit},
		{long(65538, 7, 0x80), 0, api.ErrLimit},
		{long(65538, 0, 1), 0, api.ErrLimit},
		{long(65538, 0, 0), 0, api.ErrValue},
		{long(65538, 7, 0), 0, api.ErrValue},
		{long(65538, 7, 0xc0), 0, api.ErrValue},
		{long(65538, 8, 1), 0, api.ErrValue},
	} {
		if w, e := bitstrings.GetNamed(x.c); w != x.w || e != x.e {
			t.Errorf("GetNamed(%d octets, the last one %x): %x, error %d, want %x, error %d", len(x.c), x.c[max(0, len(x.c)-1):], w, e, x.w, x.e)
		}
	}
}

// P8.6

// octetSizes lists numbers of bytes of valid octet strings.
func octetSizes() []int {
	list := []int{65535, 65536}
	for size := range 300 {
		list = append(list, size)
	}
	return list
}

func TestOctets(t *testing.T) {
	random := rand.New(rand.NewSource(5))
	for _, size := range octetSizes() {
		b := make([]byte, size)
		random.Read(b)
		e, err := bitstrings.Octets(b)
		if err != api.OK || e.Tag != (api.Tag{Number: 4}) || !bytes.Equal(e.Bytes, b) || e.Subs != nil {
			t.Errorf("Octets(%d bytes): tag %v, %d octets, error %d", size, e.Tag, len(e.Bytes), err)
		}
		checkExact(t, "Octets", e.Bytes)
		got, err := bitstrings.OfOctets(e)
		if err != api.OK || !bytes.Equal(got, b) {
			t.Errorf("OfOctets(%d bytes): %d bytes, error %d", size, len(got), err)
		}
		checkExact(t, "OfOctets", got)
		encoded, err := elements.Put(e)
		other, fault := asn1.Marshal(b)
		if err != api.OK || fault != nil || !bytes.Equal(encoded, other) {
			t.Errorf("the encoding of Octets(%d bytes): %d bytes, error %d", size, len(encoded), err)
		}
	}
}

func TestOctetsBeyondTheLimit(t *testing.T) {
	for _, size := range []int{65537, 65538, 65545, 131072, 524288, 1<<20 + 1} {
		b := make([]byte, size)
		if e, err := bitstrings.Octets(b); err != api.ErrLimit || e.Tag != (api.Tag{}) || len(e.Bytes) > 0 || len(e.Subs) > 0 {
			t.Errorf("Octets(%d bytes): tag %v, %d octets, error %d, want ErrLimit", size, e.Tag, len(e.Bytes), err)
		}
		checkOfOctets(t, api.Element{Tag: api.Tag{Number: 4}, Bytes: b}, api.ErrLimit)
	}
}

// checkOfOctets checks that OfOctets returns an error, and nothing else.
func checkOfOctets(t *testing.T, e api.Element, want api.Errno) {
	t.Helper()
	if b, err := bitstrings.OfOctets(e); err != want || len(b) > 0 {
		t.Errorf("OfOctets(tag %v, %d octets, %d elements): %d bytes, error %d, want error %d", e.Tag, len(e.Bytes), len(e.Subs), len(b), err, want)
	}
}

func TestOfOctetsOfAllContents(t *testing.T) {
	for _, c := range contents() {
		b, err := bitstrings.OfOctets(api.Element{Tag: api.Tag{Number: 4}, Bytes: c, Subs: []api.Element{}})
		if len(c) > 65536 {
			if err != api.ErrLimit || len(b) > 0 {
				t.Errorf("OfOctets(%d octets): %d bytes, error %d, want ErrLimit", len(c), len(b), err)
			}
		} else if err != api.OK || !bytes.Equal(b, c) {
			t.Errorf("OfOctets(%x): %x, error %d", c, b, err)
		}
	}
}

func TestOfOctetsOfOtherTags(t *testing.T) {
	checkOtherTags(t, 4, checkOfOctets)
}

func TestOfOctetsOfSubs(t *testing.T) {
	checkSubs(t, 4, checkOfOctets)
}

// P8.7

func TestGetInvertsPut(t *testing.T) {
	for _, text := range bitTexts() {
		b := packed(text)
		c, _ := bitstrings.Put(b, len(text))
		if got, n, e := bitstrings.Get(c); e != api.OK || n != len(text) || !bytes.Equal(got, b) {
			t.Errorf("Get(Put(%s)): %x with %d bits, error %d", text, got, n, e)
		}
		x, _ := bitstrings.Element(b, len(text))
		if got, n, e := bitstrings.Of(x); e != api.OK || n != len(text) || !bytes.Equal(got, b) {
			t.Errorf("Of(Element(%s)): %x with %d bits, error %d", text, got, n, e)
		}
	}
}

func TestOnlyWhatPutReturnsIsAccepted(t *testing.T) {
	check := func(c []byte) {
		if b, n, e := bitstrings.Get(c); e == api.OK {
			if again, err := bitstrings.Put(b, n); err != api.OK || !bytes.Equal(again, c) {
				t.Errorf("Get accepts %x", c)
			}
		}
		if w, e := bitstrings.GetNamed(c); e == api.OK && !bytes.Equal(bitstrings.PutNamed(w), c) {
			t.Errorf("GetNamed accepts %x", c)
		}
		if _, e := bitstrings.GetNamed(c); e == api.OK {
			if _, _, e := bitstrings.Get(c); e != api.OK {
				t.Errorf("GetNamed accepts %x, and Get does not", c)
			}
		}
	}
	samples.Lists(samples.Octets(), 2, check)
	samples.Lists([]byte{0, 1, 2, 7, 8, 0x80, 0xff}, 5, check)
	for _, c := range contents() {
		check(c)
	}
}

func TestOneNamedBitMore(t *testing.T) {
	for _, w := range namedLists() {
		_, before, _ := bitstrings.Get(bitstrings.PutNamed(w))
		for k := range 64 {
			if _, after, e := bitstrings.Get(bitstrings.PutNamed(w | 1<<k)); e != api.OK || after < before || after != max(before, k+1) {
				t.Errorf("PutNamed(%x) has %d bits, with the bit %d %d, error %d", w, before, k, after, e)
			}
		}
	}
}

// The examples of the chapter

func TestPutExamples(t *testing.T) {
	for _, x := range []struct {
		b []byte
		n int
		c []byte
		e api.Errno
	}{{nil, 0, []byte{0}, api.OK}, {[]byte{0xa0}, 3, []byte{5, 0xa0}, api.OK}, {[]byte{0xa1}, 3, nil, api.ErrArg}, {[]byte{0xa0}, 9, nil, api.ErrArg}} {
		if c, e := bitstrings.Put(x.b, x.n); e != x.e || !bytes.Equal(c, x.c) {
			t.Errorf("Put(%x, %d): %x, error %d, want %x, error %d", x.b, x.n, c, e, x.c, x.e)
		}
	}
}

func TestGetExamples(t *testing.T) {
	for _, x := range []struct {
		c, b []byte
		n    int
		e    api.Errno
	}{
		{[]byte{5, 0xa0}, []byte{0xa0}, 3, api.OK}, {[]byte{0}, nil, 0, api.OK},
		{[]byte{5}, nil, 0, api.ErrValue}, {[]byte{8, 0}, nil, 0, api.ErrValue}, {[]byte{1, 1}, nil, 0, api.ErrValue}, {nil, nil, 0, api.ErrValue},
	} {
		if b, n, e := bitstrings.Get(x.c); e != x.e || n != x.n || !bytes.Equal(b, x.b) {
			t.Errorf("Get(%x): %x with %d bits, error %d, want %x with %d bits, error %d", x.c, b, n, e, x.b, x.n, x.e)
		}
	}
}

func TestBitExamples(t *testing.T) {
	for i, want := range map[int]bool{0: true, 1: false, 3: false} {
		if got := bitstrings.Bit([]byte{0xa0}, 3, i); got != want {
			t.Errorf("Bit(a0, 3, %d): %v", i, got)
		}
	}
}

func TestNamedExamples(t *testing.T) {
	for w, want := range map[uint64][]byte{0: {0}, 1<<0 | 1<<5: {2, 0x84}} {
		if c := bitstrings.PutNamed(w); !bytes.Equal(c, want) {
			t.Errorf("PutNamed(%x): %x, want %x", w, c, want)
		}
	}
	for _, x := range []struct {
		c []byte
		w uint64
		e api.Errno
	}{{[]byte{2, 0x84}, 1<<0 | 1<<5, api.OK}, {[]byte{1, 0x84}, 0, api.ErrValue}, {[]byte{0, 0}, 0, api.ErrValue}} {
		if w, e := bitstrings.GetNamed(x.c); w != x.w || e != x.e {
			t.Errorf("GetNamed(%x): %x, error %d, want %x, error %d", x.c, w, e, x.w, x.e)
		}
	}
}

func TestOctetsExamples(t *testing.T) {
	e, err := bitstrings.Octets([]byte{5, 6})
	encoded, _ := elements.Put(e)
	if err != api.OK || !bytes.Equal(encoded, []byte{4, 2, 5, 6}) {
		t.Errorf("Octets(05 06): %x, error %d", encoded, err)
	}
	if b, err := bitstrings.OfOctets(e); err != api.OK || !bytes.Equal(b, []byte{5, 6}) {
		t.Errorf("OfOctets(04 02 05 06): %x, error %d", b, err)
	}
	bit, _ := bitstrings.Element([]byte{0xa0}, 3)
	if b, err := bitstrings.OfOctets(bit); err != api.ErrTag || len(b) > 0 {
		t.Errorf("OfOctets(the element of a bit string): %x, error %d", b, err)
	}
}

// R3 and R4

// spacious returns a copy of b with bytes behind its end that are not 0.
func spacious(b []byte) []byte {
	return append(slices.Clone(b), 0xff, 0xff, 0xff)[:len(b)]
}

func TestArgumentsAreNeitherModifiedNorKept(t *testing.T) {
	for _, text := range bitTexts() {
		b := packed(text)
		n := len(text)
		want := append([]byte{byte(8*len(b) - n)}, b...)
		argument := spacious(b)
		c, _ := bitstrings.Put(argument, n)
		bits, _ := bitstrings.Element(argument, n)
		octets, _ := bitstrings.Octets(argument)
		bitstrings.Check(argument, n)
		bitstrings.Bit(argument, n, 0)
		if !bytes.Equal(argument, b) || !bytes.Equal(argument[len(b):len(b)+3], []byte{0xff, 0xff, 0xff}) {
			t.Fatalf("an argument is modified: %x, was %x", argument, b)
		}
		clear(argument)
		if !bytes.Equal(c, want) || !bytes.Equal(bits.Bytes, want) || !bytes.Equal(octets.Bytes, b) {
			t.Fatalf("a result for %x depends on the argument's memory", b)
		}
		content := spacious(want)
		got, _, _ := bitstrings.Get(content)
		read, _, _ := bitstrings.Of(api.Element{Tag: api.Tag{Number: 3}, Bytes: content})
		list, _ := bitstrings.OfOctets(api.Element{Tag: api.Tag{Number: 4}, Bytes: content})
		bitstrings.GetNamed(content)
		if !bytes.Equal(content, want) || !bytes.Equal(content[len(want):len(want)+3], []byte{0xff, 0xff, 0xff}) {
			t.Fatalf("an argument is modified: %x, was %x", content, want)
		}
		clear(content)
		if !bytes.Equal(got, b) || !bytes.Equal(read, b) || !bytes.Equal(list, want) {
			t.Fatalf("a result for %x depends on the argument's memory", want)
		}
	}
}

func TestResultsAreNewMemory(t *testing.T) {
	makers := map[string]func() []byte{
		"Put":          func() []byte { c, _ := bitstrings.Put([]byte{0xa0}, 3); return c },
		"Put(none)":    func() []byte { c, _ := bitstrings.Put(nil, 0); return c },
		"Get":          func() []byte { b, _, _ := bitstrings.Get([]byte{5, 0xa0}); return b },
		"Element":      func() []byte { e, _ := bitstrings.Element([]byte{0xa0}, 3); return e.Bytes },
		"PutNamed(0)":  func() []byte { return bitstrings.PutNamed(0) },
		"PutNamed(21)": func() []byte { return bitstrings.PutNamed(0x21) },
		"Octets":       func() []byte { e, _ := bitstrings.Octets([]byte{5, 6}); return e.Bytes },
		"OfOctets": func() []byte {
			b, _ := bitstrings.OfOctets(api.Element{Tag: api.Tag{Number: 4}, Bytes: []byte{5, 6}})
			return b
		},
	}
	for name, make := range makers {
		first := make()
		want := slices.Clone(first)
		for i := range first {
			first[i]++
		}
		if second := make(); !bytes.Equal(second, want) {
			t.Errorf("%s: %x after a change of an earlier result, want %x", name, second, want)
		}
	}
}

func TestNilAndEmptyAreEqual(t *testing.T) {
	for _, empty := range [][]byte{nil, {}, spacious(nil)} {
		if e := bitstrings.Check(empty, 0); e != api.OK {
			t.Errorf("Check(none, 0): error %d", e)
		}
		if c, e := bitstrings.Put(empty, 0); e != api.OK || !bytes.Equal(c, []byte{0}) {
			t.Errorf("Put(none, 0): %x, error %d", c, e)
		}
		if e, err := bitstrings.Octets(empty); err != api.OK || e.Tag != (api.Tag{Number: 4}) || len(e.Bytes) > 0 {
			t.Errorf("Octets(none): %v, error %d", e, err)
		}
		if _, _, e := bitstrings.Get(empty); e != api.ErrValue {
			t.Errorf("Get(none): error %d", e)
		}
		if _, e := bitstrings.GetNamed(empty); e != api.ErrValue {
			t.Errorf("GetNamed(none): error %d", e)
		}
		if b, e := bitstrings.OfOctets(api.Element{Tag: api.Tag{Number: 4}, Bytes: empty}); e != api.OK || len(b) > 0 {
			t.Errorf("OfOctets(none): %x, error %d", b, e)
		}
	}
}
