package lengths_test

import (
	"bytes"
	"encoding/asn1"
	"math"
	"math/rand"
	"testing"

	"vidimus/api"
	"vidimus/lengths"
)

// valid lists lengths on both sides of every change of the form, and others of every size.
func valid() []int {
	list := []int{1<<24 - 2, 1<<24 - 1}
	for n := range 600 {
		list = append(list, n)
	}
	for k := 10; k < 24; k++ {
		list = append(list, 1<<k-1, 1<<k, 1<<k+1)
	}
	random := rand.New(rand.NewSource(1))
	for k := 10; k < 24; k++ {
		for range 5 {
			list = append(list, 1<<k|random.Intn(1<<k))
		}
	}
	return list
}

// invalid lists ints that are not valid lengths, with the error of Put.
var invalid = []struct {
	n int
	e api.Errno
}{
	{-1, api.ErrArg},
	{-127, api.ErrArg},
	{-128, api.ErrArg},
	{-256, api.ErrArg},
	{-1 << 24, api.ErrArg},
	{math.MinInt32, api.ErrArg},
	{math.MinInt, api.ErrArg},
	{1 << 24, api.ErrLimit},
	{1<<24 + 1, api.ErrLimit},
	{1<<24 + 127, api.ErrLimit},
	{1<<25 - 1, api.ErrLimit},
	{math.MaxInt32, api.ErrLimit},
	{math.MaxInt, api.ErrLimit},
}

// octets returns the length octets as the chapter defines them: the digits to the base 256, and in front of them, unless the length is at most 127, how many they are.
func octets(n int) []byte {
	digits := []byte{byte(n)}
	for rest := n / 256; rest > 0; rest /= 256 {
		digits = append([]byte{byte(rest % 256)}, digits...)
	}
	if n > 127 {
		digits = append([]byte{byte(0x80 + len(digits))}, digits...)
	}
	return digits
}

// checkError checks that Get returns an error, and nothing else, for b.
func checkError(t *testing.T, b []byte, want api.Errno) {
	t.Helper()
	if n, size, e := lengths.Get(b); e != want || n != 0 || size != 0 {
		t.Errorf("Get(%x): %d, %d octets, error %d, want error %d", b, n, size, e, want)
	}
}

// P3.1

func TestPutAndSize(t *testing.T) {
	if lengths.MaxLength != 16777215 {
		t.Errorf("MaxLength: %d", lengths.MaxLength)
	}
	for _, n := range valid() {
		want := octets(n)
		b, e := lengths.Put(n)
		if e != api.OK || !bytes.Equal(b, want) {
			t.Errorf("Put(%d): %x, error %d, want %x", n, b, e, want)
		}
		if cap(b) != len(b) {
			t.Errorf("Put(%d): %d octets with the capacity %d", n, len(b), cap(b))
		}
		if size := lengths.Size(n); size != len(want) {
			t.Errorf("Size(%d): %d, want %d", n, size, len(want))
		}
	}
}

func TestPutAgainstAnotherImplementation(t *testing.T) {
	content := make([]byte, lengths.MaxLength)
	for _, n := range valid() {
		if n > 1<<17 && n < lengths.MaxLength {
			continue
		}
		element, err := asn1.Marshal(asn1.RawValue{Tag: api.TagOctets, Bytes: content[:n]})
		if err != nil {
			t.Fatal(err)
		}
		want := element[1 : len(element)-n]
		if b, e := lengths.Put(n); e != api.OK || !bytes.Equal(b, want) {
			t.Errorf("Put(%d): %x, error %d, want %x", n, b, e, want)
		}
		if total := lengths.Total(1, n); total != len(element) {
			t.Errorf("Total(1, %d): %d, want %d", n, total, len(element))
		}
	}
}

func TestPutAndSizeOfInvalidLengths(t *testing.T) {
	for _, x := range invalid {
		if b, e := lengths.Put(x.n); e != x.e || len(b) > 0 {
			t.Errorf("Put(%d): %x, error %d, want error %d", x.n, b, e, x.e)
		}
		if size := lengths.Size(x.n); size != 0 {
			t.Errorf("Size(%d): %d", x.n, size)
		}
	}
}

// P3.2

func TestGet(t *testing.T) {
	for _, n := range valid() {
		want := octets(n)
		for _, tail := range [][]byte{nil, {0}, {0x7f}, {0x80}, {0x84}, {0, 0, 0, 0}, bytes.Repeat([]byte{255}, 9)} {
			got, size, e := lengths.Get(append(bytes.Clone(want), tail...))
			if got != n || size != len(want) || e != api.OK {
				t.Errorf("Get(%x, then %x): %d, %d octets, error %d, want %d", want, tail, got, size, e, n)
			}
		}
	}
}

func TestGetOfFirstOctets(t *testing.T) {
	checkError(t, nil, api.ErrShort)
	checkError(t, []byte{}, api.ErrShort)
	for first := range 256 {
		b := []byte{byte(first)}
		more := append(bytes.Clone(b), bytes.Repeat([]byte{0xab}, 130)...)
		switch {
		case first < 0x80:
			if n, size, e := lengths.Get(b); n != first || size != 1 || e != api.OK {
				t.Errorf("Get(%x): %d, %d octets, error %d", b, n, size, e)
			}
		case first == 0x80 || first > 0x83:
			// Whether other octets follow or not.
			checkError(t, b, api.ErrLength)
			checkError(t, more, api.ErrLength)
			checkError(t, append(bytes.Clone(b), 0), api.ErrLength)
		default:
			checkError(t, b, api.ErrShort)
			if n, size, e := lengths.Get(more); n != 0xababab>>(8*(0x83-first)) || size != first-0x7f || e != api.OK {
				t.Errorf("Get(%x): %d, %d octets, error %d", more, n, size, e)
			}
		}
	}
}

func TestGetOfShortInputs(t *testing.T) {
	for _, n := range valid() {
		b := octets(n)
		for k := range b {
			checkError(t, b[:k:k], api.ErrShort)
			// What stands behind the end, in the same memory, is not read.
			checkError(t, b[:k], api.ErrShort)
		}
	}
	// The input ends too early, before it is clear that the form is not minimal.
	for _, b := range [][]byte{{0x82, 0}, {0x82, 1}, {0x82, 0x7f}, {0x83, 0}, {0x83, 0, 0}, {0x83, 0, 0xff}, {0x83, 0x7f, 0xff}} {
		checkError(t, b, api.ErrShort)
	}
}

func TestGetOfLongForms(t *testing.T) {
	for n := range 1 << 16 {
		least := len(octets(n))
		for count := 1; count <= 3; count++ {
			b := []byte{byte(0x80 + count), 0, 0, 0}[:1+count]
			for i, rest := count, n; i > 0; i, rest = i-1, rest/256 {
				b[i] = byte(rest)
			}
			if n>>(8*count) > 0 || 1+count <= least {
				continue // n does not fit, or this is its form
			}
			checkError(t, b, api.ErrLength)
			checkError(t, append(b, 0xff), api.ErrLength)
		}
	}
}

// P3.3

func TestTotal(t *testing.T) {
	for _, n := range valid() {
		for tag := 1; tag <= 5; tag++ {
			if got, want := lengths.Total(tag, n), tag+len(octets(n))+n; got != want {
				t.Errorf("Total(%d, %d): %d, want %d", tag, n, got, want)
			}
		}
		for _, tag := range []int{0, 6, -1, -5, 7, 256, 257, math.MinInt, math.MaxInt} {
			if got := lengths.Total(tag, n); got != 0 {
				t.Errorf("Total(%d, %d): %d", tag, n, got)
			}
		}
	}
	for _, x := range invalid {
		for tag := -1; tag <= 7; tag++ {
			if got := lengths.Total(tag, x.n); got != 0 {
				t.Errorf("Total(%d, %d): %d", tag, x.n, got)
			}
		}
	}
}

// P3.4

func TestGetInvertsPut(t *testing.T) {
	for _, n := range valid() {
		b, e := lengths.Put(n)
		if e != api.OK {
			t.Fatalf("Put(%d): error %d", n, e)
		}
		for next := range 256 {
			got, size, e := lengths.Get(append(bytes.Clone(b), byte(next), 0x80))
			if got != n || size != len(b) || e != api.OK {
				t.Fatalf("Get(%x, then %x): %d, %d octets, error %d", b, next, got, size, e)
			}
		}
	}
}

func TestGetInvertsPutForAllLengths(t *testing.T) {
	before := 1
	for n := range lengths.MaxLength + 1 {
		b, e := lengths.Put(n)
		if e != api.OK {
			t.Fatalf("Put(%d): error %d", n, e)
		}
		got, size, e := lengths.Get(b)
		if got != n || size != len(b) || e != api.OK {
			t.Fatalf("Get(%x): %d, %d octets, error %d", b, got, size, e)
		}
		if size < before || lengths.Size(n) != size {
			t.Fatalf("Size(%d): %d; of its octets: %d; of those of %d: %d", n, lengths.Size(n), size, n-1, before)
		}
		before = size
	}
}

// inputs yields all inputs of up to three octets, and random ones of up to seven, most of which begin as if octets followed.
func inputs(yield func(b []byte) bool) {
	for size := range 4 {
		for i := range 1 << (8 * size) {
			if !yield([]byte{byte(i >> 16), byte(i >> 8), byte(i)}[3-size:]) {
				return
			}
		}
	}
	random := rand.New(rand.NewSource(2))
	for range 1 << 20 {
		b := make([]byte, 1+random.Intn(7))
		random.Read(b)
		if random.Intn(8) > 0 {
			b[0] = byte(0x80 + random.Intn(6))
		}
		if len(b) > 1 && random.Intn(4) == 0 {
			b[1] = byte(random.Intn(2))
		}
		if !yield(b) {
			return
		}
	}
}

func TestGottenLengthsHaveTheOctetsThatWereRead(t *testing.T) {
	for b := range inputs {
		n, size, e := lengths.Get(b)
		if e != api.OK {
			if e != api.ErrShort && e != api.ErrLength || n != 0 || size != 0 {
				t.Fatalf("Get(%x): %d, %d octets, error %d", b, n, size, e)
			}
			continue
		}
		if size < 1 || size > len(b) || lengths.Size(n) != size {
			t.Fatalf("Get(%x): %d, %d octets; Size: %d", b, n, size, lengths.Size(n))
		}
		if back, e := lengths.Put(n); e != api.OK || !bytes.Equal(back, b[:size]) {
			t.Fatalf("Get(%x): %d, %d octets; Put: %x, error %d", b, n, size, back, e)
		}
	}
}

func TestOctetsAreNoPrefixes(t *testing.T) {
	list := valid()
	all := make([][]byte, len(list))
	for i, n := range list {
		b, e := lengths.Put(n)
		if e != api.OK {
			t.Fatalf("Put(%d): error %d", n, e)
		}
		all[i] = b
	}
	for i, a := range all {
		for k, b := range all {
			if list[i] != list[k] && bytes.HasPrefix(a, b) {
				t.Errorf("%d has the octets %x, which begin those of %d: %x", list[k], b, list[i], a)
			}
		}
	}
}

// Examples of the chapter

func TestExamples(t *testing.T) {
	for _, x := range []struct {
		n int
		b []byte
		e api.Errno
	}{
		{0, []byte{0x00}, api.OK},
		{127, []byte{0x7f}, api.OK},
		{128, []byte{0x81, 0x80}, api.OK},
		{300, []byte{0x82, 0x01, 0x2c}, api.OK},
		{65536, []byte{0x83, 0x01, 0x00, 0x00}, api.OK},
		{-1, nil, api.ErrArg},
		{16777216, nil, api.ErrLimit},
	} {
		if b, e := lengths.Put(x.n); !bytes.Equal(b, x.b) || e != x.e {
			t.Errorf("Put(%d): %x, error %d", x.n, b, e)
		}
	}
	if n := lengths.Size(255); n != 2 {
		t.Errorf("Size(255): %d", n)
	}
	if n := lengths.Total(1, 255); n != 258 {
		t.Errorf("Total(1, 255): %d", n)
	}
	for _, x := range []struct {
		b       []byte
		n, size int
		e       api.Errno
	}{
		{[]byte{0x05, 0xff}, 5, 1, api.OK},
		{[]byte{0x81, 0x80}, 128, 2, api.OK},
		{[]byte{0x82, 0x01, 0x2c, 0x00}, 300, 3, api.OK},
		{nil, 0, 0, api.ErrShort},
		{[]byte{0x80}, 0, 0, api.ErrLength},
		{[]byte{0x84, 0x00, 0x00, 0x00, 0x01}, 0, 0, api.ErrLength},
		{[]byte{0x82, 0x01}, 0, 0, api.ErrShort},
		{[]byte{0x81, 0x7f}, 0, 0, api.ErrLength},
		{[]byte{0x82, 0x00, 0xff}, 0, 0, api.ErrLength},
	} {
		if n, size, e := lengths.Get(x.b); n != x.n || size != x.size || e != x.e {
			t.Errorf("Get(%x): %d, %d octets, error %d", x.b, n, size, e)
		}
	}
}

// R4

func TestResultsAreNewMemory(t *testing.T) {
	for _, n := range []int{5, 200, 300, lengths.MaxLength} {
		first, _ := lengths.Put(n)
		want := bytes.Clone(first)
		for i := range first {
			first[i] ^= 0xff
		}
		if second, _ := lengths.Put(n); !bytes.Equal(second, want) {
			t.Errorf("Put(%d): results share memory", n)
		}
		kept := bytes.Clone(want)
		if lengths.Get(kept); !bytes.Equal(kept, want) {
			t.Errorf("Get changed its argument: %x", kept)
		}
	}
}
