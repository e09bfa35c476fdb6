package scalars_test

import (
	"bytes"
	"encoding/asn1"
	"math"
	"math/big"
	"math/rand"
	"slices"
	"testing"

	"vidimus/api"
	"vidimus/elements"
	"vidimus/nats"
	"vidimus/samples"
	"vidimus/scalars"
)

// ints lists ints on both sides of every change of the number of octets, and others of every size.
func ints() []int {
	list := []int{math.MinInt, math.MinInt + 1, math.MaxInt - 1, math.MaxInt}
	for n := -10000; n <= 10000; n++ {
		list = append(list, n)
	}
	random := rand.New(rand.NewSource(1))
	for k := range 63 {
		for _, n := range []int{1<<k - 1, 1 << k, 1<<k + 1, 1<<k | random.Intn(1<<k), 1<<k | random.Intn(1<<k)} {
			list = append(list, n, -n)
		}
	}
	return list
}

// naturals lists valid numbers of every length, with and without a first bit of 1.
func naturals() [][]byte {
	list := [][]byte{nil}
	random := rand.New(rand.NewSource(2))
	for size := 1; size <= api.MaxNat; size++ {
		for _, first := range []byte{1, 0x7f, 0x80, 0x81, 0xff} {
			rest := make([]byte, size-1)
			random.Read(rest)
			list = append(list,
				append([]byte{first}, make([]byte, size-1)...),
				append([]byte{first}, bytes.Repeat([]byte{0xff}, size-1)...),
				append([]byte{first}, rest...))
		}
	}
	return list
}

// twosComplement returns the octets of an integer after the chapter: the digits of the smallest power of 256 that has room for it and its sign.
func twosComplement(n *big.Int) []byte {
	size := max(1, n.BitLen()/8) // smaller ones have no room for the digits
	for ; ; size++ {
		half := new(big.Int).Lsh(big.NewInt(1), uint(8*size-1))
		if n.Cmp(new(big.Int).Neg(half)) >= 0 && n.Cmp(half) < 0 {
			break
		}
	}
	residue := new(big.Int).Add(n, new(big.Int).Lsh(big.NewInt(1), uint(8*size)))
	digits := residue.Bytes() // more than size of them, unless n is negative
	return append(make([]byte, max(0, size-len(digits))), digits[max(0, len(digits)-size):]...)
}

// integer returns the integer that octets stand for as two's complement, and whether they are those of an integer.
func integer(b []byte) (*big.Int, bool) {
	n := new(big.Int).SetBytes(b)
	if len(b) > 0 && b[0] >= 128 {
		n.Sub(n, new(big.Int).Lsh(big.NewInt(1), uint(8*len(b))))
	}
	return n, bytes.Equal(twosComplement(n), b)
}

// checkGetInt checks that GetInt returns what the chapter asks for.
func checkGetInt(t *testing.T, b []byte) {
	t.Helper()
	want, minimal := integer(b)
	n, e := scalars.GetInt(b)
	switch {
	case !minimal:
		if n != 0 || e != api.ErrValue {
			t.Errorf("GetInt(%x): %d, error %d, want ErrValue", b, n, e)
		}
	case len(b) > 8:
		if n != 0 || e != api.ErrLimit {
			t.Errorf("GetInt(%x): %d, error %d, want ErrLimit", b, n, e)
		}
	case int64(n) != want.Int64() || e != api.OK:
		t.Errorf("GetInt(%x): %d, error %d, want %s", b, n, e, want)
	}
}

// checkGetNat checks that GetNat returns what the chapter asks for.
func checkGetNat(t *testing.T, b []byte) {
	t.Helper()
	want, minimal := integer(b)
	n, e := scalars.GetNat(b)
	switch {
	case !minimal || want.Sign() < 0:
		if len(n) > 0 || e != api.ErrValue {
			t.Errorf("GetNat(%x): %x, error %d, want ErrValue", b, n, e)
		}
	case len(want.Bytes()) > api.MaxNat:
		if len(n) > 0 || e != api.ErrLimit {
			t.Errorf("GetNat(%x): %x, error %d, want ErrLimit", b, n, e)
		}
	case !bytes.Equal(n, want.Bytes()) || e != api.OK:
		t.Errorf("GetNat(%x): %x, error %d, want %x", b, n, e, want.Bytes())
	case cap(n) != len(n):
		t.Errorf("GetNat(%x): %d bytes with the capacity %d", b, len(n), cap(n))
	}
}

// checkElement checks an element, and its encoding: the tag as one octet, the length, and the content octets.
func checkElement(t *testing.T, call string, e api.Element, number uint32, content []byte) {
	t.Helper()
	if e.Tag != (api.Tag{Number: number}) || !bytes.Equal(e.Bytes, content) || e.Subs != nil {
		t.Errorf("%s: %v, want the tag %d and the content %x", call, e, number, content)
	}
	if cap(e.Bytes) != len(e.Bytes) {
		t.Errorf("%s: %d octets with the capacity %d", call, len(e.Bytes), cap(e.Bytes))
	}
	want := append([]byte{byte(number), byte(len(content))}, content...)
	if b, err := elements.Put(e); err != api.OK || !bytes.Equal(b, want) {
		t.Errorf("%s: the encoding is %x, error %d, want %x", call, b, err, want)
	}
}

// P5.1

func TestPutBool(t *testing.T) {
	if b := scalars.PutBool(false); !bytes.Equal(b, []byte{0}) || cap(b) != 1 {
		t.Errorf("PutBool(false): %x", b)
	}
	if b := scalars.PutBool(true); !bytes.Equal(b, []byte{0xff}) || cap(b) != 1 {
		t.Errorf("PutBool(true): %x", b)
	}
}

func TestGetBool(t *testing.T) {
	samples.Lists(samples.Octets(), 2, func(b []byte) {
		v, e := scalars.GetBool(b)
		switch {
		case bytes.Equal(b, []byte{0}):
			if v || e != api.OK {
				t.Errorf("GetBool(00): %v, error %d", v, e)
			}
		case bytes.Equal(b, []byte{0xff}):
			if !v || e != api.OK {
				t.Errorf("GetBool(ff): %v, error %d", v, e)
			}
		case v || e != api.ErrValue:
			t.Errorf("GetBool(%x): %v, error %d, want ErrValue", b, v, e)
		}
	})
	for _, size := range []int{3, 4, 256, 257, 65537} {
		for _, octet := range []byte{0, 0xff} {
			if v, e := scalars.GetBool(bytes.Repeat([]byte{octet}, size)); v || e != api.ErrValue {
				t.Errorf("GetBool(%d times %x): %v, error %d, want ErrValue", size, octet, v, e)
			}
		}
	}
}

// P5.2

func TestPutInt(t *testing.T) {
	for _, n := range ints() {
		want := twosComplement(big.NewInt(int64(n)))
		b := scalars.PutInt(n)
		if !bytes.Equal(b, want) || cap(b) != len(b) {
			t.Errorf("PutInt(%d): %x with the capacity %d, want %x", n, b, cap(b), want)
		}
		if m, e := scalars.GetInt(b); m != n || e != api.OK {
			t.Errorf("GetInt(%x): %d, error %d, want %d", b, m, e, n)
		}
	}
}

func TestPutIntAgainstAnotherImplementation(t *testing.T) {
	for _, n := range ints() {
		want, err := asn1.Marshal(n)
		if err != nil {
			t.Fatal(err)
		}
		if b := scalars.PutInt(n); !bytes.Equal(b, want[2:]) {
			t.Errorf("PutInt(%d): %x, want %x", n, b, want[2:])
		}
	}
}

func TestGetInt(t *testing.T) {
	check := func(b []byte) { checkGetInt(t, b) }
	samples.Lists(samples.Octets(), 2, check)
	samples.Lists([]byte{0, 1, 0x7f, 0x80, 0x81, 0xfe, 0xff}, 4, check)
	samples.Lists([]byte{0, 0x80, 0xff}, 9, check)
	random := rand.New(rand.NewSource(3))
	for range 50000 {
		b := make([]byte, random.Intn(11))
		random.Read(b)
		if len(b) > 0 && random.Intn(2) == 0 {
			b[0] = []byte{0, 0xff}[random.Intn(2)]
		}
		check(b)
	}
}

func TestGetIntOfManyOctets(t *testing.T) {
	for _, size := range []int{8, 9, 10, 64, 65, 66, 255, 256, 257, 1000} {
		for _, first := range samples.Octets() {
			for _, second := range []byte{0, 1, 0x7f, 0x80, 0xff} {
				checkGetInt(t, slices.Concat([]byte{first, second}, make([]byte, size-2)))
			}
		}
	}
	long := make([]byte, api.MaxText+1)
	if n, e := scalars.GetInt(long); n != 0 || e != api.ErrValue {
		t.Errorf("GetInt(only 00): %d, error %d, want ErrValue", n, e)
	}
	long[0] = 1
	if n, e := scalars.GetInt(long); n != 0 || e != api.ErrLimit {
		t.Errorf("GetInt(01, then only 00): %d, error %d, want ErrLimit", n, e)
	}
}

// P5.3

func TestPutNat(t *testing.T) {
	for _, n := range naturals() {
		want := twosComplement(new(big.Int).SetBytes(n))
		b, e := scalars.PutNat(n)
		if e != api.OK || !bytes.Equal(b, want) || cap(b) != len(b) {
			t.Errorf("PutNat(%x): %x with the capacity %d, error %d, want %x", n, b, cap(b), e, want)
		}
		if m, e := scalars.GetNat(b); e != api.OK || !bytes.Equal(m, n) || cap(m) != len(m) {
			t.Errorf("GetNat(%x): %x with the capacity %d, error %d, want %x", b, m, cap(m), e, n)
		}
	}
}

func TestPutNatAgainstAnotherImplementation(t *testing.T) {
	for _, n := range naturals() {
		element, err := asn1.Marshal(new(big.Int).SetBytes(n))
		if err != nil {
			t.Fatal(err)
		}
		if b, e := scalars.PutNat(n); e != api.OK || !bytes.Equal(b, element[2:]) {
			t.Errorf("PutNat(%x): %x, error %d, want %x", n, b, e, element[2:])
		}
	}
}

// invalidNaturals lists what is not a valid number, some of it for two reasons.
func invalidNaturals() [][]byte {
	return [][]byte{
		{0}, {0, 0}, {0, 1}, {0, 0x80}, {0, 0xff, 0xff},
		make([]byte, 64), append([]byte{0}, bytes.Repeat([]byte{0xff}, 63)...),
		make([]byte, 65), append([]byte{0}, bytes.Repeat([]byte{0xff}, 64)...),
		append([]byte{1}, make([]byte, 64)...), bytes.Repeat([]byte{0x80}, 65), bytes.Repeat([]byte{0xff}, 1000),
	}
}

func TestPutNatOfInvalidNumbers(t *testing.T) {
	for _, n := range invalidNaturals() {
		want := nats.Check(n)
		if want == api.OK {
			t.Fatalf("%x is valid", n)
		}
		if b, e := scalars.PutNat(n); e != want || len(b) > 0 {
			t.Errorf("PutNat(%x): %x, error %d, want error %d", n, b, e, want)
		}
	}
}

func TestGetNat(t *testing.T) {
	check := func(b []byte) { checkGetNat(t, b) }
	samples.Lists(samples.Octets(), 2, check)
	samples.Lists([]byte{0, 1, 0x7f, 0x80, 0x81, 0xfe, 0xff}, 5, check)
	random := rand.New(rand.NewSource(4))
	for range 20000 {
		b := make([]byte, random.Intn(70))
		random.Read(b)
		if len(b) > 0 && random.Intn(2) == 0 {
			b[0] = 0
		}
		check(b)
	}
}

func TestGetNatOfManyOctets(t *testing.T) {
	for _, size := range []int{8, 9, 63, 64, 65, 66, 67, 255, 256, 257, 1000} {
		for _, first := range samples.Octets() {
			for _, second := range []byte{0, 1, 0x7f, 0x80, 0xff} {
				checkGetNat(t, slices.Concat([]byte{first, second}, make([]byte, size-2)))
			}
		}
	}
	long := make([]byte, api.MaxText+1)
	for _, x := range []struct {
		first, second byte
		e             api.Errno
	}{{0, 0, api.ErrValue}, {0, 0x7f, api.ErrValue}, {0, 0x80, api.ErrLimit}, {1, 0, api.ErrLimit}, {0x80, 0, api.ErrValue}, {0xff, 0xff, api.ErrValue}} {
		long[0], long[1] = x.first, x.second
		if n, e := scalars.GetNat(long); len(n) > 0 || e != x.e {
			t.Errorf("GetNat(%x, then only 00): %x, error %d, want error %d", long[:2], n, e, x.e)
		}
	}
}

// P5.4

func TestElements(t *testing.T) {
	checkElement(t, "Bool(false)", scalars.Bool(false), 1, []byte{0})
	checkElement(t, "Bool(true)", scalars.Bool(true), 1, []byte{0xff})
	checkElement(t, "Null()", scalars.Null(), 5, nil)
	for _, n := range ints() {
		content := twosComplement(big.NewInt(int64(n)))
		checkElement(t, "Int", scalars.Int(n), 2, content)
		checkElement(t, "Enumerated", scalars.Enumerated(n), 10, content)
	}
	for _, n := range naturals() {
		e, err := scalars.Nat(n)
		if err != api.OK {
			t.Errorf("Nat(%x): error %d", n, err)
		}
		checkElement(t, "Nat", e, 2, twosComplement(new(big.Int).SetBytes(n)))
	}
}

func TestElementsAgainstAnotherImplementation(t *testing.T) {
	for _, x := range []struct {
		e     api.Element
		value any
	}{
		{scalars.Bool(false), false},
		{scalars.Bool(true), true},
		{scalars.Int(-129), -129},
		{scalars.Int(65536), 65536},
		{scalars.Enumerated(-129), asn1.Enumerated(-129)},
		{scalars.Enumerated(65536), asn1.Enumerated(65536)},
		{scalars.Null(), asn1.NullRawValue},
	} {
		want, err := asn1.Marshal(x.value)
		if err != nil {
			t.Fatal(err)
		}
		if b, e := elements.Put(x.e); e != api.OK || !bytes.Equal(b, want) {
			t.Errorf("the element of %v: %x, error %d, want %x", x.value, b, e, want)
		}
	}
}

func TestNatOfInvalidNumbers(t *testing.T) {
	for _, n := range invalidNaturals() {
		x, e := scalars.Nat(n)
		if e != nats.Check(n) || x.Tag != (api.Tag{}) || len(x.Bytes) > 0 || len(x.Subs) > 0 {
			t.Errorf("Nat(%x): %v, error %d, want error %d", n, x, e, nats.Check(n))
		}
	}
}

// P5.5

// reader is one of the functions that read an element: it returns whether the value is the zero value, and the error.
type reader struct {
	name   string
	number uint32
	read   func(e api.Element) (isZero bool, err api.Errno)
}

func readers() []reader {
	return []reader{
		{"OfBool", 1, func(e api.Element) (bool, api.Errno) { v, err := scalars.OfBool(e); return !v, err }},
		{"OfInt", 2, func(e api.Element) (bool, api.Errno) { v, err := scalars.OfInt(e); return v == 0, err }},
		{"OfNat", 2, func(e api.Element) (bool, api.Errno) { v, err := scalars.OfNat(e); return len(v) == 0, err }},
		{"OfEnumerated", 10, func(e api.Element) (bool, api.Errno) { v, err := scalars.OfEnumerated(e); return v == 0, err }},
		{"OfNull", 5, func(e api.Element) (bool, api.Errno) { return true, scalars.OfNull(e) }},
	}
}

// checkRead checks that a reader returns an error, and nothing else.
func checkRead(t *testing.T, r reader, e api.Element, want api.Errno) {
	t.Helper()
	if isZero, err := r.read(e); !isZero || err != want {
		t.Errorf("%s(%v): error %d, zero value %v, want error %d", r.name, e, err, isZero, want)
	}
}

// contents lists content octets that are valid for some types and not for others, and some that are valid for none.
func contents() [][]byte {
	list := [][]byte{nil, {}, {0}, {1}, {0x7f}, {0x80}, {0xff}, {0, 0}, {0, 0x7f}, {0, 0x80}, {0xff, 0x7f}, {0xff, 0x80}, {0xff, 0xff}, {1, 0}}
	for _, size := range []int{8, 9, 64, 65, 66} {
		for _, first := range [][]byte{{0, 0}, {0, 0x80}, {1, 0}, {0x80, 0}, {0xff, 0xff}} {
			list = append(list, append(bytes.Clone(first), make([]byte, size-2)...))
		}
	}
	return list
}

func TestReadOtherTags(t *testing.T) {
	subs := []api.Element{scalars.Null()}
	for _, r := range readers() {
		for _, class := range []api.Class{api.Universal, api.Application, api.Context, api.Private, 4, 255} {
			for _, constructed := range []bool{false, true} {
				for _, number := range []uint32{0, 1, 2, 3, 4, 5, 6, 9, 10, 11, 12, 16, 17, 1 << 8, 1<<8 + 1, 1<<8 + 2, 1<<8 + 5, 1<<16 + 2, 1<<31 + 2, 1<<32 - 1} {
					tag := api.Tag{Class: class, Constructed: constructed, Number: number}
					if tag == (api.Tag{Number: r.number}) {
						continue
					}
					for _, content := range [][]byte{nil, {0}, {0xff}, {5}, {0, 0}} {
						checkRead(t, r, api.Element{Tag: tag, Bytes: content}, api.ErrTag)
						checkRead(t, r, api.Element{Tag: tag, Bytes: content, Subs: subs}, api.ErrTag)
					}
				}
			}
		}
	}
}

func TestReadSubs(t *testing.T) {
	for _, r := range readers() {
		for _, subs := range [][]api.Element{{scalars.Null()}, {{}}, {scalars.Int(1), scalars.Int(2)}, make([]api.Element, api.MaxElements)} {
			for _, content := range contents() {
				checkRead(t, r, api.Element{Tag: api.Tag{Number: r.number}, Bytes: content, Subs: subs}, api.ErrArg)
			}
		}
	}
}

func TestReadSubsThatContainThemselves(t *testing.T) {
	for _, r := range readers() {
		subs := make([]api.Element, 1)
		subs[0] = api.Element{Tag: api.Tag{Number: r.number, Constructed: true}, Subs: subs}
		checkRead(t, r, subs[0], api.ErrTag)
		checkRead(t, r, api.Element{Tag: api.Tag{Number: r.number}, Subs: subs}, api.ErrArg)
	}
}

func TestReadContents(t *testing.T) {
	for _, content := range contents() {
		e := func(number uint32) api.Element {
			return api.Element{Tag: api.Tag{Number: number}, Bytes: content, Subs: []api.Element{}}
		}
		wantBool, boolError := scalars.GetBool(content)
		if v, err := scalars.OfBool(e(1)); v != wantBool || err != boolError {
			t.Errorf("OfBool of %x: %v, error %d, want %v, error %d", content, v, err, wantBool, boolError)
		}
		wantInt, intError := scalars.GetInt(content)
		if n, err := scalars.OfInt(e(2)); n != wantInt || err != intError {
			t.Errorf("OfInt of %x: %d, error %d, want %d, error %d", content, n, err, wantInt, intError)
		}
		if n, err := scalars.OfEnumerated(e(10)); n != wantInt || err != intError {
			t.Errorf("OfEnumerated of %x: %d, error %d, want %d, error %d", content, n, err, wantInt, intError)
		}
		wantNat, natError := scalars.GetNat(content)
		if n, err := scalars.OfNat(e(2)); !bytes.Equal(n, wantNat) || err != natError {
			t.Errorf("OfNat of %x: %x, error %d, want %x, error %d", content, n, err, wantNat, natError)
		}
		nullError := api.OK
		if len(content) > 0 {
			nullError = api.ErrValue
		}
		if err := scalars.OfNull(e(5)); err != nullError {
			t.Errorf("OfNull of %x: error %d, want error %d", content, err, nullError)
		}
	}
}

// P5.6

func TestEachOfInverts(t *testing.T) {
	for _, v := range []bool{false, true} {
		if w, e := scalars.GetBool(scalars.PutBool(v)); w != v || e != api.OK {
			t.Errorf("GetBool(PutBool(%v)): %v, error %d", v, w, e)
		}
		if w, e := scalars.OfBool(scalars.Bool(v)); w != v || e != api.OK {
			t.Errorf("OfBool(Bool(%v)): %v, error %d", v, w, e)
		}
	}
	if e := scalars.OfNull(scalars.Null()); e != api.OK {
		t.Errorf("OfNull(Null()): error %d", e)
	}
	for _, n := range ints() {
		if m, e := scalars.OfInt(scalars.Int(n)); m != n || e != api.OK {
			t.Errorf("OfInt(Int(%d)): %d, error %d", n, m, e)
		}
		if m, e := scalars.OfEnumerated(scalars.Enumerated(n)); m != n || e != api.OK {
			t.Errorf("OfEnumerated(Enumerated(%d)): %d, error %d", n, m, e)
		}
	}
	for _, n := range naturals() {
		element, _ := scalars.Nat(n)
		if m, e := scalars.OfNat(element); !bytes.Equal(m, n) || e != api.OK {
			t.Errorf("OfNat(Nat(%x)): %x, error %d", n, m, e)
		}
	}
}

func TestOnlyWhatPutReturnsIsAccepted(t *testing.T) {
	check := func(b []byte) {
		if v, e := scalars.GetBool(b); e == api.OK && !bytes.Equal(scalars.PutBool(v), b) {
			t.Errorf("GetBool accepts %x", b)
		}
		if n, e := scalars.GetInt(b); e == api.OK && !bytes.Equal(scalars.PutInt(n), b) {
			t.Errorf("GetInt accepts %x", b)
		}
		n, e := scalars.GetNat(b)
		if again, _ := scalars.PutNat(n); e == api.OK && !bytes.Equal(again, b) {
			t.Errorf("GetNat accepts %x", b)
		}
	}
	samples.Lists(samples.Octets(), 2, check)
	samples.Lists([]byte{0, 1, 0x7f, 0x80, 0xff}, 6, check)
	for _, content := range contents() {
		check(content)
	}
}

func TestPutNatAndPutIntAgree(t *testing.T) {
	for _, n := range ints() {
		if n < 0 {
			continue
		}
		want := scalars.PutInt(n)
		if b, e := scalars.PutNat(nats.Of(uint64(n))); e != api.OK || !bytes.Equal(b, want) {
			t.Errorf("PutNat(%d): %x, error %d, want %x", n, b, e, want)
		}
		if m, e := scalars.GetNat(want); e != api.OK || !bytes.Equal(m, nats.Of(uint64(n))) {
			t.Errorf("GetNat(%x): %x, error %d, want %d", want, m, e, n)
		}
	}
}

// The examples of the chapter

func TestPutExamples(t *testing.T) {
	for n, want := range map[int][]byte{0: {0}, 127: {0x7f}, 128: {0, 0x80}, -128: {0x80}, -129: {0xff, 0x7f}} {
		if b := scalars.PutInt(n); !bytes.Equal(b, want) {
			t.Errorf("PutInt(%d): %x, want %x", n, b, want)
		}
	}
	for _, x := range []struct{ n, want []byte }{{[]byte{0x80}, []byte{0, 0x80}}, {nil, []byte{0}}} {
		if b, e := scalars.PutNat(x.n); e != api.OK || !bytes.Equal(b, x.want) {
			t.Errorf("PutNat(%x): %x, error %d, want %x", x.n, b, e, x.want)
		}
	}
}

func TestGetExamples(t *testing.T) {
	if v, e := scalars.GetBool([]byte{1}); v || e != api.ErrValue {
		t.Errorf("GetBool(01): %v, error %d", v, e)
	}
	if v, e := scalars.GetBool(nil); v || e != api.ErrValue {
		t.Errorf("GetBool(none): %v, error %d", v, e)
	}
	for _, x := range []struct {
		b []byte
		e api.Errno
	}{
		{[]byte{0, 0x7f}, api.ErrValue},
		{[]byte{0xff, 0x80}, api.ErrValue},
		{nil, api.ErrValue},
		{[]byte{1, 0, 0, 0, 0, 0, 0, 0, 0}, api.ErrLimit},
	} {
		if n, e := scalars.GetInt(x.b); n != 0 || e != x.e {
			t.Errorf("GetInt(%x): %d, error %d, want error %d", x.b, n, e, x.e)
		}
	}
	for _, x := range []struct {
		b, n []byte
		e    api.Errno
	}{{[]byte{0, 0x80}, []byte{0x80}, api.OK}, {[]byte{0x80}, nil, api.ErrValue}, {[]byte{0}, nil, api.OK}} {
		if n, e := scalars.GetNat(x.b); !bytes.Equal(n, x.n) || e != x.e {
			t.Errorf("GetNat(%x): %x, error %d, want %x, error %d", x.b, n, e, x.n, x.e)
		}
	}
}

func TestElementExamples(t *testing.T) {
	if n, e := scalars.OfInt(scalars.Int(-1)); n != -1 || e != api.OK {
		t.Errorf("OfInt(Int(-1)): %d, error %d", n, e)
	}
	if n, e := scalars.OfInt(scalars.Enumerated(5)); n != 0 || e != api.ErrTag {
		t.Errorf("OfInt(Enumerated(5)): %d, error %d", n, e)
	}
	if n, e := scalars.OfEnumerated(scalars.Enumerated(5)); n != 5 || e != api.OK {
		t.Errorf("OfEnumerated(Enumerated(5)): %d, error %d", n, e)
	}
	if e := scalars.OfNull(api.Element{Tag: api.Tag{Number: api.TagNull}, Bytes: []byte{0}}); e != api.ErrValue {
		t.Errorf("OfNull(NULL with the content 00): error %d", e)
	}
}

// R4

func TestArgumentsAreNeitherModifiedNorKept(t *testing.T) {
	for _, n := range naturals() {
		argument := bytes.Clone(n)
		octets, _ := scalars.PutNat(argument)
		element, _ := scalars.Nat(argument)
		if !bytes.Equal(argument, n) {
			t.Fatalf("PutNat or Nat modify %x", n)
		}
		clear(argument)
		want := twosComplement(new(big.Int).SetBytes(n))
		if !bytes.Equal(octets, want) || !bytes.Equal(element.Bytes, want) {
			t.Fatalf("the results of PutNat and Nat for %x depend on the argument's memory", n)
		}
		got, _ := scalars.GetNat(octets)
		read, _ := scalars.OfNat(element)
		if !bytes.Equal(octets, want) || !bytes.Equal(element.Bytes, want) {
			t.Fatalf("GetNat or OfNat modify %x", want)
		}
		clear(octets)
		clear(element.Bytes)
		if !bytes.Equal(got, n) || !bytes.Equal(read, n) {
			t.Fatalf("the results of GetNat and OfNat for %x depend on the argument's memory", want)
		}
	}
}

func TestResultsAreNewMemory(t *testing.T) {
	makers := map[string]func() []byte{
		"PutBool(false)": func() []byte { return scalars.PutBool(false) },
		"PutBool(true)":  func() []byte { return scalars.PutBool(true) },
		"PutInt":         func() []byte { return scalars.PutInt(-300) },
		"PutNat(0)":      func() []byte { b, _ := scalars.PutNat(nil); return b },
		"PutNat":         func() []byte { b, _ := scalars.PutNat([]byte{0x80, 1}); return b },
		"GetNat":         func() []byte { b, _ := scalars.GetNat([]byte{0, 0x80, 1}); return b },
		"Bool":           func() []byte { return scalars.Bool(true).Bytes },
		"Int":            func() []byte { return scalars.Int(-300).Bytes },
		"Enumerated":     func() []byte { return scalars.Enumerated(-300).Bytes },
	}
	for name, make := range makers {
		first := make()
		want := bytes.Clone(first)
		for i := range first {
			first[i]++
		}
		if second := make(); !bytes.Equal(second, want) {
			t.Errorf("%s: %x after a change of an earlier result, want %x", name, second, want)
		}
	}
}
