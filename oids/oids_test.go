package oids_test

import (
	"bytes"
	"crypto/x509"
	"encoding/asn1"
	"math"
	"math/big"
	"math/rand"
	"regexp"
	"slices"
	"strconv"
	"strings"
	"testing"

	"vidimus/api"
	"vidimus/oids"
	"vidimus/samples"
)

// maxSecond is the greatest second arc below the first arc 2.
const maxSecond = 4294967215

// oid returns an OID with arcs, which need not be valid.
func oid(arcs ...uint32) api.OID {
	o := api.OID{N: uint8(len(arcs))}
	copy(o.Arcs[:], arcs)
	return o
}

// beginnings lists first and second arcs on both sides of every limit that valid ones have, and others.
func beginnings() [][]uint32 {
	list := [][]uint32{{2, 999}, {2, maxSecond - 1}, {2, maxSecond}}
	for first := range uint32(3) {
		for second := range uint32(40) {
			list = append(list, []uint32{first, second})
		}
	}
	// The subidentifier is 80 more than the second arc; its groups have seven bits.
	for _, k := range []int{7, 8, 14, 16, 21, 28, 31} {
		for _, id := range []uint32{1<<k - 1, 1 << k, 1<<k + 1, 1<<k + 79, 1<<k + 80} {
			list = append(list, []uint32{2, id - 80})
		}
	}
	return list
}

// arcs lists arcs on both sides of every change of the number of groups, and others of every size.
func arcs() []uint32 {
	list := []uint32{0, 1, 2, 39, 40, 79, 80, 81, 119, 120, math.MaxUint32 - 80, math.MaxUint32 - 79, math.MaxUint32 - 1, math.MaxUint32}
	random := rand.New(rand.NewSource(1))
	for k := 2; k < 32; k++ {
		list = append(list, 1<<k-1, 1<<k, 1<<k+1, 1<<k|random.Uint32()>>(32-k))
	}
	return list
}

// valid lists valid OIDs with every number of arcs.
func valid() []api.OID {
	var list []api.OID
	for _, begin := range beginnings() {
		list = append(list, oid(begin...), oid(append(begin, 0)...), oid(append(begin, 128, 1)...))
	}
	for _, arc := range arcs() {
		list = append(list, oid(1, 2, arc), oid(2, 999, arc, arc), oid(0, 0, 0, arc, 1))
	}
	random := rand.New(rand.NewSource(2))
	for n := 2; n <= 16; n++ {
		list = append(list, oid(make([]uint32, n)...), oid(slices.Concat([]uint32{2, maxSecond}, slices.Repeat([]uint32{math.MaxUint32}, n-2))...))
		for range 20 {
			o := oid(make([]uint32, n)...)
			o.Arcs[0], o.Arcs[1] = random.Uint32()%3, random.Uint32()%40
			for i := 2; i < n; i++ {
				o.Arcs[i] = random.Uint32() >> random.Intn(32)
			}
			list = append(list, o)
		}
	}
	return list
}

// invalid lists OIDs that are not valid, some of them for two reasons.
func invalid() []api.OID {
	list := []api.OID{
		{}, {N: 1}, {N: 17}, {N: 18}, {N: 255},
		oid(0), oid(1), oid(2), oid(3), {N: 1, Arcs: [16]uint32{1, 2, 3}}, {Arcs: [16]uint32{2, 5, 29, 32}},
		oid(3, 0), oid(3, 1), oid(3, 39), oid(3, 1, 2), oid(40, 1), oid(math.MaxUint32, 0), oid(1<<8, 1), oid(1<<16+2, 1), oid(1<<31, 1),
		oid(0, 40), oid(1, 40), oid(0, 40, 1), oid(1, 40, 1), oid(0, 41), oid(1, 79), oid(0, 80), oid(0, 1<<8), oid(1, 1<<16), oid(0, math.MaxUint32), oid(1, math.MaxUint32), oid(0, maxSecond), oid(1, maxSecond),
		oid(2, maxSecond+1), oid(2, maxSecond+1, 0), oid(2, maxSecond+40), oid(2, math.MaxUint32-1), oid(2, math.MaxUint32), oid(3, math.MaxUint32),
	}
	for n := range 16 {
		for i := n; i < 16; i++ {
			spoilt := oid(make([]uint32, n)...)
			spoilt.Arcs[i] = uint32(1) << (2 * i)
			list = append(list, spoilt)
		}
	}
	full := oid(make([]uint32, 16)...)
	full.N = 17
	return append(list, full)
}

// strange lists OIDs with any number of arcs and any arcs, small ones above all; hardly one is valid.
func strange() []api.OID {
	var list []api.OID
	random := rand.New(rand.NewSource(3))
	for range 20000 {
		o := api.OID{N: uint8(random.Intn(20))}
		if random.Intn(8) == 0 {
			o.N = uint8(random.Intn(256))
		}
		for i := range 16 {
			if i < int(o.N) || random.Intn(100) == 0 {
				o.Arcs[i] = random.Uint32() >> (31 - random.Intn(4)*random.Intn(11))
			}
		}
		list = append(list, o)
	}
	return list
}

// all lists OIDs that are valid, and others.
func all() []api.OID {
	return slices.Concat(valid(), invalid(), strange())
}

// isValid reports whether an OID is valid, after the chapter.
func isValid(o api.OID) bool {
	if o.N < 2 || o.N > 16 {
		return false
	}
	most := map[uint32]uint32{0: 39, 1: 39, 2: 1<<32 - 81}
	second, isFirst := most[o.Arcs[0]]
	if !isFirst || o.Arcs[1] > second {
		return false
	}
	for i := range 16 {
		if i >= int(o.N) && o.Arcs[i] != 0 {
			return false
		}
	}
	return true
}

// octets returns the content octets that another implementation writes for a valid OID.
func octets(t *testing.T, o api.OID) []byte {
	t.Helper()
	var id asn1.ObjectIdentifier
	for _, arc := range o.Arcs[:o.N] {
		id = append(id, int(arc))
	}
	b, err := asn1.Marshal(id)
	if err != nil {
		t.Fatal(err)
	}
	return b[2:] // without the tag and the length, of which 76 octets at most need one
}

// isLast reports whether an octet is the last one of its subidentifier.
func isLast(octet byte) bool { return octet < 128 }

// number returns the number whose digits to the base 128 are octets, without their highest bits.
func number(octets []byte) *big.Int {
	n := new(big.Int)
	for _, octet := range octets {
		n.Mul(n, big.NewInt(128))
		n.Add(n, big.NewInt(int64(octet%128)))
	}
	return n
}

// readOctet returns the error of the octet b[i], after the chapter; those before it have none.
func readOctet(b []byte, i int) api.Errno {
	first, before := 0, 0 // of the subidentifier of b[i]: its first octet, and the subidentifiers before it
	for k, octet := range b[:i] {
		if isLast(octet) {
			first = k + 1
			before++
		}
	}
	if first == i && before == 15 { // they are 16 arcs
		return api.ErrLimit
	}
	if first == i && b[i] == 128 {
		return api.ErrValue
	}
	if number(b[first:i+1]).Cmp(big.NewInt(1<<32-1)) > 0 {
		return api.ErrLimit
	}
	return api.OK
}

// read returns what Get must return, after the chapter.
func read(b []byte) (api.OID, api.Errno) {
	if len(b) == 0 {
		return api.OID{}, api.ErrShort
	}
	for i := range b {
		if e := readOctet(b, i); e != api.OK {
			return api.OID{}, e
		}
	}
	if !isLast(b[len(b)-1]) {
		return api.OID{}, api.ErrShort
	}
	var list []uint32
	first := 0
	for i, octet := range b {
		if !isLast(octet) {
			continue
		}
		id := uint32(number(b[first : i+1]).Uint64())
		switch {
		case len(list) > 0:
			list = append(list, id)
		case id < 40:
			list = []uint32{0, id}
		case id < 80:
			list = []uint32{1, id - 40}
		default:
			list = []uint32{2, id - 80}
		}
		first = i + 1
	}
	return oid(list...), api.OK
}

// checkGet checks that Get returns what the chapter asks for.
func checkGet(t *testing.T, b []byte) {
	t.Helper()
	want, wantError := read(b)
	if o, e := oids.Get(b); o != want || e != wantError {
		t.Errorf("Get(%x): %v, error %d, want %v, error %d", b, o, e, want, wantError)
	}
}

// dotted matches the texts that Parse does not answer by ErrForm.
var dotted = regexp.MustCompile(`^(0|[1-9][0-9]*)(\.(0|[1-9][0-9]*))*$`)

// readText returns what Parse must return, after the chapter.
func readText(s string) (api.OID, api.Errno) {
	if !dotted.MatchString(s) {
		return api.OID{}, api.ErrForm
	}
	words := strings.Split(s, ".")
	var list []uint32
	for _, word := range words {
		n, _ := new(big.Int).SetString(word, 10)
		if len(words) > 16 || n.Cmp(big.NewInt(1<<32-1)) > 0 {
			return api.OID{}, api.ErrLimit
		}
		list = append(list, uint32(n.Uint64()))
	}
	if !isValid(oid(list...)) {
		return api.OID{}, api.ErrArg
	}
	return oid(list...), api.OK
}

// checkParse checks that Parse returns what the chapter asks for.
func checkParse(t *testing.T, s string) {
	t.Helper()
	want, wantError := readText(s)
	if o, e := oids.Parse(s); o != want || e != wantError {
		t.Errorf("Parse(%.100q): %v, error %d, want %v, error %d", s, o, e, want, wantError)
	}
}

// P6.1

func TestCheck(t *testing.T) {
	for _, o := range valid() {
		if e := oids.Check(o); e != api.OK {
			t.Errorf("Check(%v): error %d", o, e)
		}
	}
	for _, o := range invalid() {
		if e := oids.Check(o); e != api.ErrArg {
			t.Errorf("Check(%v): error %d, want ErrArg", o, e)
		}
	}
	for _, o := range strange() {
		want := api.ErrArg
		if isValid(o) {
			want = api.OK
		}
		if e := oids.Check(o); e != want {
			t.Errorf("Check(%v): error %d, want %d", o, e, want)
		}
	}
}

func TestCheckOfAllNumbersOfArcs(t *testing.T) {
	for n := range 256 {
		want := api.ErrArg
		if n >= 2 && n <= 16 {
			want = api.OK
		}
		if e := oids.Check(api.OID{N: uint8(n)}); e != want {
			t.Errorf("%d arcs: error %d, want %d", n, e, want)
		}
	}
}

func TestAnyAndIsAny(t *testing.T) {
	anyPolicy := api.OID{N: 5, Arcs: [16]uint32{2, 5, 29, 32, 0}}
	if o := oids.Any(); o != anyPolicy {
		t.Errorf("Any(): %v", o)
	}
	if !oids.IsAny(anyPolicy) {
		t.Error("IsAny(anyPolicy) is false")
	}
	for _, o := range append(all(), oid(2, 5, 29, 32), oid(2, 5, 29, 32, 1), oid(2, 5, 29, 32, 0, 0), oid(2, 5, 29, 31, 0), oid(1, 5, 29, 32, 0)) {
		if oids.IsAny(o) {
			t.Errorf("IsAny(%v) is true", o)
		}
	}
	for i := 5; i < 16; i++ {
		spoilt := anyPolicy
		spoilt.Arcs[i] = 1
		if oids.IsAny(spoilt) {
			t.Errorf("IsAny(%v) is true", spoilt)
		}
	}
}

func TestOf(t *testing.T) {
	for _, o := range all() {
		list := o.Arcs[:min(o.N, 16)]
		before := slices.Clone(list)
		want := oid(list...)
		if !isValid(want) {
			want = api.OID{}
		}
		if got := oids.Of(list...); got != want {
			t.Errorf("Of(%v): %v, want %v", list, got, want)
		}
		if !slices.Equal(list, before) {
			t.Errorf("Of modifies %v", before)
		}
	}
	if o := oids.Of(); o != (api.OID{}) {
		t.Errorf("Of(): %v", o)
	}
}

func TestOfManyArcs(t *testing.T) {
	for _, n := range []int{17, 18, 32, 255, 256, 257, 258, 259, 272, 65538, api.MaxText} {
		for _, first := range []uint32{0, 2} {
			list := make([]uint32, n)
			list[0] = first
			if o := oids.Of(list...); o != (api.OID{}) {
				t.Errorf("Of(%d arcs): %v", n, o)
			}
		}
	}
}

// P6.2

// compare compares two OIDs after the chapter.
func compare(a, b api.OID) int {
	for i := range 16 {
		switch {
		case i >= int(a.N) && i >= int(b.N):
			return 0
		case i >= int(a.N):
			return -1
		case i >= int(b.N):
			return 1
		case a.Arcs[i] < b.Arcs[i]:
			return -1
		case a.Arcs[i] > b.Arcs[i]:
			return 1
		}
	}
	return 0
}

func TestCompare(t *testing.T) {
	list := all()
	random := rand.New(rand.NewSource(4))
	for _, a := range list {
		others := []api.OID{a}
		for range 10 {
			others = append(others, list[random.Intn(len(list))])
		}
		for i := range 16 { // the same but for one arc, and but for the number of arcs
			other := a
			other.Arcs[i] += uint32(random.Intn(3)) - 1
			shorter := a
			shorter.N = uint8(i)
			others = append(others, other, shorter)
		}
		for _, b := range others {
			if got := oids.Compare(a, b); got != compare(a, b) {
				t.Errorf("Compare(%v, %v): %d", a, b, got)
			}
			if got := oids.Compare(b, a); got != compare(b, a) {
				t.Errorf("Compare(%v, %v): %d", b, a, got)
			}
		}
	}
}

func TestCompareOfKnownOrder(t *testing.T) {
	long := slices.Repeat([]uint32{1}, 15)
	list := []api.OID{
		{}, oid(0), oid(0, 0), oid(0, 0, 0), oid(0, 1), oid(0, 39), oid(0, math.MaxUint32), oid(1), oid(1, 0),
		oid(long...), oid(append(long, 0)...), oid(append(long, 1)...), oid(append(long, math.MaxUint32)...),
		oid(1, 2, 3), oid(1, 2, 3, 4), oid(1, 2, 9), oid(1, 2, 128), oid(1, 2, 1<<31), oid(1, 3), oid(1, 3, 1),
		oid(2, 5, 29, 32), oid(2, 5, 29, 32, 0), oid(2, 5, 29, 32, 1), oid(2, maxSecond), oid(3), oid(1 << 31), oid(math.MaxUint32),
	}
	for i, a := range list {
		for k, b := range list {
			want := min(max(i-k, -1), 1)
			if got := oids.Compare(a, b); got != want {
				t.Errorf("Compare(%v, %v): %d, want %d", a, b, got, want)
			}
		}
	}
}

func TestCompareOfArcsThatDoNotCount(t *testing.T) {
	arcs := [16]uint32{1, 2, 3, 4, 5, 6, 7, 8, 9, 10, 11, 12, 13, 14, 15, 16}
	for n := range 256 {
		a := api.OID{N: uint8(n), Arcs: arcs}
		if n >= 16 {
			for m := 16; m < 256; m++ {
				if got := oids.Compare(a, api.OID{N: uint8(m), Arcs: arcs}); got != 0 {
					t.Errorf("Compare of %d and %d arcs: %d", n, m, got)
				}
			}
			continue
		}
		b := a
		for i := n; i < 16; i++ {
			b.Arcs[i] = uint32(i % 2 * 100)
		}
		if got := oids.Compare(a, b); got != 0 {
			t.Errorf("Compare of %d arcs: %d", n, got)
		}
		for _, m := range []int{n + 1, 16, 17, 255} {
			more := api.OID{N: uint8(m), Arcs: arcs}
			if oids.Compare(a, more) != -1 || oids.Compare(more, a) != 1 {
				t.Errorf("Compare of %d and %d arcs: %d, %d", n, m, oids.Compare(a, more), oids.Compare(more, a))
			}
		}
	}
}

// P6.3

func TestHas(t *testing.T) {
	list := valid()
	for _, o := range valid() {
		for n := 2; n < int(o.N); n += 3 {
			list = append(list, oid(o.Arcs[:n]...))
		}
	}
	texts := make([]string, len(list))
	for i, o := range list {
		texts[i] = oids.Text(o) + "."
	}
	for i, a := range list {
		for k, b := range list {
			want := texts[k] != texts[i] && strings.HasPrefix(texts[k], texts[i])
			if oids.Has(a, b) != want {
				t.Fatalf("Has(%v, %v) is not %v", a, b, want)
			}
		}
	}
}

func TestHasOfParts(t *testing.T) {
	for _, o := range valid() {
		for n := range int(o.N) {
			part := oid(o.Arcs[:n]...)
			if oids.Has(part, o) != (n >= 2) || oids.Has(o, part) {
				t.Errorf("the first %d arcs of %v: %v, %v", n, o, oids.Has(part, o), oids.Has(o, part))
			}
			if n < 2 {
				continue
			}
			for i := range n { // not below what differs in one arc
				other := part
				other.Arcs[i]++
				if oids.Has(other, o) {
					t.Errorf("Has(%v, %v) is true", other, o)
				}
			}
		}
		if oids.Has(o, o) {
			t.Errorf("Has(%v, the same) is true", o)
		}
	}
}

func TestHasOfInvalidOIDs(t *testing.T) {
	for _, a := range invalid() {
		if isValid(a) {
			t.Fatalf("%v is valid", a)
		}
		others := append(valid(), invalid()...)
		for n := range 18 { // prefixes, and what has it as a prefix
			other := a
			other.N = uint8(n)
			others = append(others, other)
		}
		for _, b := range others {
			if oids.Has(a, b) || oids.Has(b, a) {
				t.Fatalf("%v and %v, one below the other", a, b)
			}
		}
	}
}

// P6.4

func TestPut(t *testing.T) {
	for _, o := range valid() {
		want := octets(t, o)
		b, e := oids.Put(o)
		if e != api.OK || !bytes.Equal(b, want) {
			t.Errorf("Put(%v): %x, error %d, want %x", o, b, e, want)
		}
		if cap(b) != len(b) {
			t.Errorf("Put(%v): %d octets with the capacity %d", o, len(b), cap(b))
		}
	}
}

func TestPutOfInvalidOIDs(t *testing.T) {
	for _, o := range slices.Concat(invalid(), strange()) {
		if isValid(o) {
			continue
		}
		if b, e := oids.Put(o); e != api.ErrArg || len(b) > 0 {
			t.Errorf("Put(%v): %x, error %d, want ErrArg", o, b, e)
		}
	}
}

// P6.5

func TestGet(t *testing.T) {
	check := func(b []byte) { checkGet(t, b) }
	samples.Lists(samples.Octets(), 2, check)
	samples.Lists([]byte{0, 1, 0x27, 0x28, 0x4f, 0x50, 0x7f, 0x80, 0x81, 0x8f, 0x90, 0xff}, 4, check)
	samples.Lists([]byte{0, 0x7f, 0x80, 0x8f, 0xff}, 6, check)
	random := rand.New(rand.NewSource(5))
	for range 20000 {
		b := make([]byte, random.Intn(30))
		random.Read(b)
		for i := range b {
			if random.Intn(2) == 0 {
				b[i] %= 128
			}
		}
		check(b)
	}
}

func TestGetOfChangedOctets(t *testing.T) {
	for _, o := range valid() {
		b := octets(t, o)
		for size := range len(b) {
			checkGet(t, b[:size])
		}
		for i := range b {
			for _, octet := range []byte{0, 1, 0x7f, 0x80, 0x81, 0xff, b[i] ^ 0x80, b[i] + 1} {
				changed := bytes.Clone(b)
				changed[i] = octet
				checkGet(t, changed)
			}
		}
		for _, octet := range []byte{0, 1, 0x80, 0x81} {
			checkGet(t, append(bytes.Clone(b), octet))
		}
	}
}

func TestGetOfManyArcs(t *testing.T) {
	for _, last := range [][]byte{nil, {0}, {0x7f}, {0x80}, {0x81}, {0xff}, {0x81, 0}, {0x80, 0}, {0x8f, 0xff, 0xff, 0xff, 0x7f}, {0x90, 0x80, 0x80, 0x80, 0}} {
		for _, n := range []int{13, 14, 15, 16, 17, 100} {
			for _, octet := range []byte{0, 1, 0x7f} {
				checkGet(t, append(bytes.Repeat([]byte{octet}, n), last...))
			}
		}
		for _, n := range []int{14, 15, 16} {
			checkGet(t, append(bytes.Repeat([]byte{0x8f, 0xff, 0xff, 0xff, 0x7f}, n), last...))
		}
	}
}

// TestGetErrors has one case for each error, and for each two of which one comes first.
func TestGetErrors(t *testing.T) {
	arcs := func(n int, b ...byte) []byte { return append(make([]byte, n-1), b...) } // n arcs, then b
	for _, x := range []struct {
		b []byte
		e api.Errno
	}{
		{nil, api.ErrShort},
		{[]byte{}, api.ErrShort},
		{[]byte{0x81}, api.ErrShort},
		{[]byte{0xff, 0xff}, api.ErrShort},
		{[]byte{0x80}, api.ErrValue},
		{[]byte{0x80, 1}, api.ErrValue},
		{[]byte{1, 0x80, 1}, api.ErrValue},
		{[]byte{0x80, 0x80, 0x80, 0x80, 0x80, 0x80, 0x80, 1}, api.ErrValue},
		{[]byte{0x90, 0x80, 0x80, 0x80, 0}, api.ErrLimit},
		{[]byte{0x90, 0x80, 0x80, 0x80, 0x80}, api.ErrLimit},
		{[]byte{0x90, 0x80, 0x80, 0x80}, api.ErrShort},
		{[]byte{0x8f, 0xff, 0xff, 0xff, 0xff}, api.ErrShort},
		{[]byte{0x8f, 0xff, 0xff, 0xff, 0xff, 0}, api.ErrLimit},
		{[]byte{0x81, 0x80, 0x80, 0x80, 0x80, 0}, api.ErrLimit},
		{arcs(15, 0x81), api.ErrShort},
		{arcs(15, 0x80), api.ErrValue},
		{arcs(16, 0), api.ErrLimit},
		{arcs(16, 0x80), api.ErrLimit},
		{arcs(16, 0x81), api.ErrLimit},
		{arcs(15, 0x80, 0, 0, 0), api.ErrValue},
		{[]byte{0x90, 0x80, 0x80, 0x80, 0, 0x80}, api.ErrLimit},
		{[]byte{0x80, 0x90, 0x80, 0x80, 0x80, 0}, api.ErrValue},
		{[]byte{0x81, 0x80, 0x80}, api.ErrShort},
	} {
		if o, e := oids.Get(x.b); o != (api.OID{}) || e != x.e {
			t.Errorf("Get(%x): %v, error %d, want error %d", x.b, o, e, x.e)
		}
	}
}

func TestGetOfLargeInputs(t *testing.T) {
	for _, x := range []struct {
		octet byte
		e     api.Errno
	}{{0, api.ErrLimit}, {1, api.ErrLimit}, {0x80, api.ErrValue}, {0x81, api.ErrLimit}, {0xff, api.ErrLimit}} {
		b := bytes.Repeat([]byte{x.octet}, api.MaxText+1)
		if o, e := oids.Get(b); o != (api.OID{}) || e != x.e {
			t.Errorf("Get(many %x): %v, error %d, want error %d", x.octet, o, e, x.e)
		}
	}
}

// P6.6

func TestText(t *testing.T) {
	for _, o := range all() {
		want := "?"
		if isValid(o) {
			var words []string
			for _, arc := range o.Arcs[:o.N] {
				words = append(words, strconv.Itoa(int(arc)))
			}
			want = strings.Join(words, ".")
		}
		if s := oids.Text(o); s != want {
			t.Errorf("Text(%v): %q, want %q", o, s, want)
		}
	}
}

func TestParse(t *testing.T) {
	check := func(b []byte) { checkParse(t, string(b)) }
	samples.Lists([]byte("0123459.x"), 5, check)
	samples.Lists([]byte("012."), 8, check)
	samples.Lists(samples.Octets(), 1, check)
	for _, octet := range samples.Octets() {
		for _, text := range []string{"1.2.3", "2.999", "1.10.100"} {
			for i := range len(text) {
				checkParse(t, text[:i]+string([]byte{octet})+text[i:])
				checkParse(t, text[:i]+string([]byte{octet})+text[i+1:])
			}
			checkParse(t, text+string([]byte{octet}))
		}
	}
}

func TestParseOfNumbers(t *testing.T) {
	numbers := []string{"0", "1", "2", "3", "39", "40", "79", "80", "4294967215", "4294967216", "4294967294", "4294967295", "4294967296", "4294967297", "4294967300", "9999999999", "10000000000",
		"18446744073709551615", "18446744073709551616", "18446744073709551617", "36893488147419103233", "1" + strings.Repeat("0", 100), strings.Repeat("9", 1000),
		"", "00", "01", "0x1", "1e1", "1_0", "+1", "-1", "-0", " 1", "1 ", "1\n", "\u0661", "\uff11", "0b1", "?"}
	for _, a := range numbers {
		checkParse(t, a)
		for _, b := range numbers {
			checkParse(t, a+"."+b)
			checkParse(t, a+".1."+b)
			checkParse(t, "1."+a+"."+b)
		}
	}
}

func TestParseOfLongNumbers(t *testing.T) {
	long := strings.Repeat("9", api.MaxText+1)
	for s, want := range map[string]api.Errno{long: api.ErrLimit, "1.2." + long: api.ErrLimit, "3." + long: api.ErrLimit, "1.2.0" + long: api.ErrForm, "1.2." + long + "x": api.ErrForm, long + ".": api.ErrForm} {
		if o, e := oids.Parse(s); o != (api.OID{}) || e != want {
			t.Errorf("Parse of %d bytes that begin with %.8q: %v, error %d, want error %d", len(s), s, o, e, want)
		}
	}
}

func TestParseOfManyNumbers(t *testing.T) {
	for _, n := range []int{2, 15, 16, 17, 18, 255, 256, 257, 258, 259, 272, 65538} {
		for _, number := range []string{"0", "1", "3", "4294967295", "4294967296"} {
			for _, last := range []string{"0", "7", "4294967296", "", "x", "00", "0."} {
				checkParse(t, strings.Repeat(number+".", n-1)+last)
			}
		}
	}
	checkParse(t, strings.Repeat("0.", api.MaxText)+"0")
	checkParse(t, strings.Repeat("0.", api.MaxText)+"x")
}

// TestParseErrors has one case for each error, and for each two of which one comes first.
func TestParseErrors(t *testing.T) {
	zeros := strings.Repeat(".0", 15)
	for s, want := range map[string]api.Errno{
		"": api.ErrForm, ".": api.ErrForm, "1.": api.ErrForm, ".1": api.ErrForm, "1..2": api.ErrForm, "01.2": api.ErrForm, "1.02": api.ErrForm, "1.2 ": api.ErrForm, "?": api.ErrForm,
		"9.4294967296.x": api.ErrForm, "9.4294967296.": api.ErrForm, "0.0" + zeros + ".": api.ErrForm, "0.0" + zeros + ".00": api.ErrForm, "3.1.x": api.ErrForm,
		"4294967296": api.ErrLimit, "4294967296.1": api.ErrLimit, "1.4294967296": api.ErrLimit, "3.4294967296": api.ErrLimit, "0.0" + zeros: api.ErrLimit, "3.0" + zeros: api.ErrLimit,
		"0": api.ErrArg, "1": api.ErrArg, "4294967295": api.ErrArg, "3.0": api.ErrArg, "0.40": api.ErrArg, "1.40": api.ErrArg, "2.4294967216": api.ErrArg, "2.4294967295": api.ErrArg, "3" + zeros: api.ErrArg,
	} {
		if o, e := oids.Parse(s); o != (api.OID{}) || e != want {
			t.Errorf("Parse(%q): %v, error %d, want error %d", s, o, e, want)
		}
	}
}

// P6.7

func TestGetInvertsPut(t *testing.T) {
	for _, o := range valid() {
		b, e := oids.Put(o)
		if e != api.OK {
			t.Errorf("Put(%v): error %d", o, e)
		}
		if got, e := oids.Get(b); got != o || e != api.OK {
			t.Errorf("Get(%x): %v, error %d, want %v", b, got, e, o)
		}
	}
}

func TestGottenOIDsHaveTheOctetsThatWereRead(t *testing.T) {
	check := func(b []byte) {
		o, e := oids.Get(b)
		if e != api.OK {
			return
		}
		if again, e := oids.Put(o); e != api.OK || !bytes.Equal(again, b) {
			t.Errorf("Get(%x): %v, whose octets are %x, error %d", b, o, again, e)
		}
	}
	samples.Lists(samples.Octets(), 2, check)
	samples.Lists([]byte{0, 1, 0x27, 0x28, 0x4f, 0x50, 0x7f, 0x80, 0x81, 0x8f, 0x90, 0xff}, 5, check)
}

func TestParseInvertsText(t *testing.T) {
	for _, o := range valid() {
		if got, e := oids.Parse(oids.Text(o)); got != o || e != api.OK {
			t.Errorf("Parse(%q): %v, error %d, want %v", oids.Text(o), got, e, o)
		}
	}
}

func TestParsedOIDsHaveTheTextsThatWereRead(t *testing.T) {
	samples.Lists([]byte("0123459.x"), 5, func(b []byte) {
		if o, e := oids.Parse(string(b)); e == api.OK && oids.Text(o) != string(b) {
			t.Errorf("Parse(%q): %v, whose text is %q", b, o, oids.Text(o))
		}
	})
}

func TestAgainstAnotherImplementation(t *testing.T) {
	for _, o := range valid() {
		id, err := x509.ParseOID(oids.Text(o))
		if err != nil {
			t.Fatal(err)
		}
		want, err := id.MarshalBinary()
		if err != nil {
			t.Fatal(err)
		}
		if b, e := oids.Put(o); e != api.OK || !bytes.Equal(b, want) || oids.Text(o) != id.String() {
			t.Errorf("%s: %x, error %d, want %s, %x", oids.Text(o), b, e, id, want)
		}
	}
}

func TestCompareIsATotalOrder(t *testing.T) {
	list := valid()
	for _, a := range list {
		for _, b := range list {
			if order := oids.Compare(a, b); (order == 0) != (a == b) || oids.Compare(b, a) != -order {
				t.Fatalf("Compare(%v, %v): %d, the other way %d", a, b, order, oids.Compare(b, a))
			}
			if oids.Has(a, b) && oids.Compare(a, b) != -1 {
				t.Fatalf("%v is below %v, and does not come after it", b, a)
			}
		}
	}
	slices.SortFunc(list, oids.Compare)
	for i := range list {
		for k := range i {
			if oids.Compare(list[k], list[i]) > 0 {
				t.Fatalf("%v comes after %v, and before it", list[k], list[i])
			}
		}
	}
}

// The examples of the chapter

func TestPutExamples(t *testing.T) {
	for s, want := range map[string][]byte{
		"2.5.29.32.0":    {0x55, 0x1d, 0x20, 0},
		"1.2.840.113549": {0x2a, 0x86, 0x48, 0x86, 0xf7, 0x0d},
		"2.999":          {0x88, 0x37},
	} {
		o, e := oids.Parse(s)
		if e != api.OK {
			t.Errorf("Parse(%q): error %d", s, e)
		}
		if b, e := oids.Put(o); e != api.OK || !bytes.Equal(b, want) {
			t.Errorf("Put(%s): %x, error %d, want %x", s, b, e, want)
		}
	}
}

func TestGetExamples(t *testing.T) {
	for _, x := range []struct {
		b []byte
		o api.OID
		e api.Errno
	}{
		{[]byte{0x55, 0x1d, 0x20, 0}, oid(2, 5, 29, 32, 0), api.OK},
		{[]byte{0x2a, 0x86}, api.OID{}, api.ErrShort},
		{[]byte{0x2a, 0x80, 1}, api.OID{}, api.ErrValue},
		{nil, api.OID{}, api.ErrShort},
		{[]byte{0x8f, 0xff, 0xff, 0xff, 0x7f}, oid(2, 4294967215), api.OK},
		{[]byte{0x90, 0x80, 0x80, 0x80, 0}, api.OID{}, api.ErrLimit},
		{bytes.Repeat([]byte{1}, 17), api.OID{}, api.ErrLimit},
	} {
		if o, e := oids.Get(x.b); o != x.o || e != x.e {
			t.Errorf("Get(%x): %v, error %d, want %v, error %d", x.b, o, e, x.o, x.e)
		}
	}
}

func TestOtherExamples(t *testing.T) {
	if got := oids.Compare(oid(1, 2, 3), oid(1, 2, 3, 4)); got != -1 {
		t.Errorf("Compare(1.2.3, 1.2.3.4): %d", got)
	}
	if got := oids.Compare(oid(1, 3), oid(1, 2, 9)); got != 1 {
		t.Errorf("Compare(1.3, 1.2.9): %d", got)
	}
	if !oids.Has(oid(1, 2, 3), oid(1, 2, 3, 4)) {
		t.Error("Has(1.2.3, 1.2.3.4) is false")
	}
	if oids.Has(oid(1, 2, 3), oid(1, 2, 3)) {
		t.Error("Has(1.2.3, 1.2.3) is true")
	}
	if o := oids.Of(1, 40); o != (api.OID{}) {
		t.Errorf("Of(1, 40): %v", o)
	}
	for s, want := range map[string]api.Errno{"1.2.03": api.ErrForm, "1": api.ErrArg, "3.1": api.ErrArg, "1.2.4294967296": api.ErrLimit} {
		if o, e := oids.Parse(s); o != (api.OID{}) || e != want {
			t.Errorf("Parse(%q): %v, error %d, want error %d", s, o, e, want)
		}
	}
}

// R4

func TestGetDoesNotModifyItsArgument(t *testing.T) {
	for _, o := range valid() {
		b := octets(t, o)
		before := bytes.Clone(b)
		oids.Get(b)
		if !bytes.Equal(b, before) {
			t.Fatalf("Get modifies %x", before)
		}
	}
}

func TestResultsAreNewMemory(t *testing.T) {
	for _, o := range valid() {
		first, _ := oids.Put(o)
		want := bytes.Clone(first)
		for i := range first {
			first[i]++
		}
		if second, _ := oids.Put(o); !bytes.Equal(second, want) {
			t.Fatalf("Put(%v): %x after a change of an earlier result, want %x", o, second, want)
		}
	}
}
