package nats_test

import (
	"bytes"
	"math"
	"math/big"
	"math/rand"
	"strings"
	"testing"

	"vidimus/api"
	"vidimus/nats"
)

// repeat returns n bytes b.
func repeat(b byte, n int) []byte { return bytes.Repeat([]byte{b}, n) }

// power returns the digits of 2^k + d.
func power(k uint, d int64) []byte {
	v := new(big.Int).Lsh(big.NewInt(1), k)
	return v.Add(v, big.NewInt(d)).Bytes()
}

// samples returns numbers on both sides of the limits of digits and words, and others of every length up to size bytes.
func samples(size int) [][]byte {
	list := [][]byte{nil, {}, {1}, {2}, {7}, {9}, {10}, {16}, {99}, {100}}
	for _, k := range []uint{7, 8, 15, 16, 31, 32, 63, 64, 255, 256, 257, 510, 511} {
		list = append(list, power(k, -1), power(k, 0), power(k, 1))
	}
	list = append(list, power(512, -2), power(512, -1))
	random := rand.New(rand.NewSource(1))
	for n := 1; n <= api.MaxNat; n++ {
		b := make([]byte, n)
		random.Read(b)
		b[0] |= 1
		list = append(list, b)
	}
	var short [][]byte
	for _, n := range list {
		if len(n) <= size {
			short = append(short, n)
		}
	}
	return short
}

func value(n []byte) *big.Int { return new(big.Int).SetBytes(n) }

// expect compares a result with a value: one that needs more than MaxNat bytes is ErrLimit.
func expect(t *testing.T, what string, got []byte, e api.Errno, want *big.Int) {
	t.Helper()
	if len(want.Bytes()) > api.MaxNat {
		expectError(t, what, got, e, api.ErrLimit)
		return
	}
	if e != api.OK || !bytes.Equal(got, want.Bytes()) {
		t.Errorf("%s: %x, error %d; want %x", what, got, e, want.Bytes())
	}
	if cap(got) != len(got) {
		t.Errorf("%s: %d bytes with the capacity %d", what, len(got), cap(got))
	}
}

func expectError(t *testing.T, what string, got []byte, e, want api.Errno) {
	t.Helper()
	if e != want || len(got) > 0 {
		t.Errorf("%s: %x, error %d; want error %d", what, got, e, want)
	}
}

// invalid lists what is no number, with its error.
var invalid = []struct {
	n []byte
	e api.Errno
}{
	{[]byte{0}, api.ErrValue},
	{[]byte{0, 1}, api.ErrValue},
	{make([]byte, 64), api.ErrValue},
	{repeat(1, 65), api.ErrLimit},
	{make([]byte, 65), api.ErrLimit},
	{append([]byte{0}, repeat(255, 64)...), api.ErrLimit},
	{make([]byte, 100000), api.ErrLimit},
}

// P1.1

func TestCheck(t *testing.T) {
	for _, n := range samples(api.MaxNat) {
		if e := nats.Check(n); e != api.OK {
			t.Errorf("Check(%x): error %d", n, e)
		}
	}
	for i, x := range invalid {
		if e := nats.Check(x.n); e != x.e {
			t.Errorf("invalid %d: error %d, want %d", i, e, x.e)
		}
	}
}

func TestOfAndUint(t *testing.T) {
	values := []uint64{0, 1, 2, 127, 128, 255, 256, 257, 65535, 65536, 1<<24 - 1, 1 << 24, math.MaxUint32, 1 << 32, 1<<56 - 1, 1 << 56, 1 << 63, math.MaxUint64}
	for _, v := range values {
		n := nats.Of(v)
		expect(t, "Of", n, nats.Check(n), new(big.Int).SetUint64(v))
		if got, e := nats.Uint(n); got != v || e != api.OK {
			t.Errorf("Uint(Of(%d)): %d, error %d", v, got, e)
		}
	}
	if v, e := nats.Uint(nil); v != 0 || e != api.OK {
		t.Errorf("Uint(nil): %d, error %d", v, e)
	}
}

func TestUintErrors(t *testing.T) {
	for i, x := range invalid {
		if v, e := nats.Uint(x.n); v != 0 || e != x.e {
			t.Errorf("invalid %d: %d, error %d, want %d", i, v, e, x.e)
		}
	}
	for _, n := range [][]byte{power(64, 0), repeat(1, 9), repeat(255, 64)} {
		if v, e := nats.Uint(n); v != 0 || e != api.ErrLimit {
			t.Errorf("Uint(%x): %d, error %d", n, v, e)
		}
	}
	// What is wrong with the number itself comes before its length.
	if v, e := nats.Uint(make([]byte, 9)); v != 0 || e != api.ErrValue {
		t.Errorf("Uint of nine zero bytes: %d, error %d", v, e)
	}
}

// P1.2

func TestCompare(t *testing.T) {
	for i, x := range []struct {
		a, b []byte
		want int
	}{
		{nil, []byte{}, 0},
		{nil, make([]byte, 1000), 0},
		{[]byte{0, 2}, []byte{2}, 0},
		{[]byte{1, 0}, []byte{255}, 1},
		{[]byte{0, 0, 255}, []byte{1, 0}, -1},
		{[]byte{1, 2, 3}, []byte{1, 2, 4}, -1},
		{[]byte{2, 0, 0}, []byte{1, 255, 255}, 1},
		{append(make([]byte, 100), 3), []byte{0, 2}, 1},
		{repeat(1, 100), repeat(255, 99), 1},
		{repeat(1, 100), append([]byte{0}, repeat(1, 100)...), 0},
		{repeat(1, 100), append(repeat(1, 99), 2), -1},
	} {
		if got := nats.Compare(x.a, x.b); got != x.want {
			t.Errorf("%d: %d, want %d", i, got, x.want)
		}
		if got := nats.Compare(x.b, x.a); got != -x.want {
			t.Errorf("%d: the other way round %d, want %d", i, got, -x.want)
		}
	}
}

// P1.3

func TestSumsOfSamples(t *testing.T) {
	list := samples(api.MaxNat)
	for _, a := range list {
		for _, b := range list {
			sum, e := nats.Add(a, b)
			expect(t, "Add", sum, e, new(big.Int).Add(value(a), value(b)))
			product, e := nats.Mul(a, b)
			expect(t, "Mul", product, e, new(big.Int).Mul(value(a), value(b)))
			difference, e := nats.Sub(a, b)
			if value(a).Cmp(value(b)) < 0 {
				expectError(t, "Sub", difference, e, api.ErrArg)
			} else {
				expect(t, "Sub", difference, e, new(big.Int).Sub(value(a), value(b)))
			}
		}
	}
}

func TestSumsAtTheLimit(t *testing.T) {
	full := repeat(255, 64)
	sum, e := nats.Add(power(512, -2), []byte{1})
	expect(t, "Add to the largest number", sum, e, value(full))
	sum, e = nats.Add(full, []byte{1})
	expectError(t, "Add beyond it", sum, e, api.ErrLimit)
	sum, e = nats.Add(full, full)
	expectError(t, "Add twice", sum, e, api.ErrLimit)
	product, e := nats.Mul(power(256, -1), power(256, 1))
	expect(t, "Mul to the largest number", product, e, value(full))
	product, e = nats.Mul(power(256, 0), power(256, 0))
	expectError(t, "Mul to the next one", product, e, api.ErrLimit)
	product, e = nats.Mul(full, full)
	expectError(t, "Mul twice", product, e, api.ErrLimit)
	product, e = nats.Mul(full, nil)
	expect(t, "Mul by 0", product, e, new(big.Int))
}

func TestErrorsOfTwoNumbers(t *testing.T) {
	full := repeat(255, 64)
	for name, f := range map[string]func(a, b []byte) ([]byte, api.Errno){"Add": nats.Add, "Sub": nats.Sub, "Mul": nats.Mul} {
		for i, x := range invalid {
			for _, n := range [][]byte{nil, {1}, full} {
				got, e := f(x.n, n)
				expectError(t, name, got, e, x.e)
				got, e = f(n, x.n)
				expectError(t, name, got, e, x.e)
			}
			for _, y := range invalid {
				if got, e := f(x.n, y.n); e != x.e || len(got) > 0 {
					t.Errorf("%s: invalid %d, then another one: error %d, want the first one's %d", name, i, e, x.e)
				}
			}
		}
	}
}

// P1.4

func TestDiv(t *testing.T) {
	for _, n := range samples(api.MaxNat) {
		for _, by := range []uint32{1, 2, 3, 7, 10, 255, 256, 257, 65535, 65536, 1 << 31, math.MaxUint32 - 1, math.MaxUint32} {
			quotient, remainder, e := nats.Div(n, by)
			q, r := new(big.Int).QuoRem(value(n), big.NewInt(int64(by)), new(big.Int))
			expect(t, "Div", quotient, e, q)
			if int64(remainder) != r.Int64() {
				t.Errorf("Div(%x, %d): remainder %d, want %d", n, by, remainder, r)
			}
		}
		quotient, remainder, e := nats.Div(n, 0)
		if expectError(t, "Div by 0", quotient, e, api.ErrArg); remainder != 0 {
			t.Errorf("Div(%x, 0): remainder %d", n, remainder)
		}
	}
}

func TestDivErrors(t *testing.T) {
	for _, x := range invalid {
		for _, by := range []uint32{0, 7} {
			quotient, remainder, e := nats.Div(x.n, by)
			if expectError(t, "Div", quotient, e, x.e); remainder != 0 {
				t.Errorf("Div(%x, %d): remainder %d", x.n, by, remainder)
			}
		}
	}
}

func TestPow(t *testing.T) {
	for _, n := range samples(api.MaxNat) {
		for k := range 20 {
			got, e := nats.Pow(n, k)
			expect(t, "Pow", got, e, new(big.Int).Exp(value(n), big.NewInt(int64(k)), nil))
		}
	}
	for i, x := range []struct {
		n, want []byte
		k       int
		e       api.Errno
	}{
		{nil, []byte{1}, 0, api.OK},
		{nil, nil, 1, api.OK},
		{nil, nil, math.MaxInt, api.OK},
		{[]byte{1}, []byte{1}, math.MaxInt, api.OK},
		{[]byte{2}, []byte{4, 0}, 10, api.OK},
		{[]byte{2}, power(511, 0), 511, api.OK},
		{[]byte{2}, nil, 512, api.ErrLimit},
		{[]byte{2}, nil, math.MaxInt, api.ErrLimit},
		{[]byte{255}, nil, math.MaxInt, api.ErrLimit},
		{repeat(255, 64), repeat(255, 64), 1, api.OK},
		{repeat(255, 64), nil, 2, api.ErrLimit},
		{nil, nil, -1, api.ErrArg},
		{[]byte{1}, nil, -1, api.ErrArg},
		{[]byte{2}, nil, math.MinInt, api.ErrArg},
	} {
		if got, e := nats.Pow(x.n, x.k); e != x.e || !bytes.Equal(got, x.want) {
			t.Errorf("%d: %x, error %d; want %x, error %d", i, got, e, x.want, x.e)
		}
	}
}

func TestPowErrors(t *testing.T) {
	for _, x := range invalid {
		for _, k := range []int{-1, 0, 1, 2, math.MaxInt} {
			got, e := nats.Pow(x.n, k)
			expectError(t, "Pow", got, e, x.e)
		}
	}
}

// P1.5

func TestBits(t *testing.T) {
	for _, n := range samples(api.MaxNat) {
		if got := nats.Bits(n); got != value(n).BitLen() {
			t.Errorf("Bits(%x): %d, want %d", n, got, value(n).BitLen())
		}
	}
	for k := range uint(512) {
		if got := nats.Bits(power(k, 0)); got != int(k)+1 {
			t.Errorf("Bits(2^%d): %d", k, got)
		}
	}
	for i, x := range invalid {
		if got := nats.Bits(x.n); got != 0 {
			t.Errorf("invalid %d: %d", i, got)
		}
	}
}

// P1.6

func TestTextAndParse(t *testing.T) {
	for _, n := range samples(api.MaxNat) {
		want := value(n).String()
		if got := nats.Text(n); got != want {
			t.Errorf("Text(%x): %s, want %s", n, got, want)
		}
		got, e := nats.Parse(want)
		expect(t, "Parse("+want+")", got, e, value(n))
	}
	for i, x := range invalid {
		if got := nats.Text(x.n); got != "?" {
			t.Errorf("invalid %d: %s", i, got)
		}
	}
}

func TestParseErrors(t *testing.T) {
	for _, s := range []string{"", "00", "007", "0x", "01", "-1", "+1", "-0", " 1", "1 ", "1\n", "1x", "x", "/", ":", "0:", "1_0", "1.0", "0x1", "1e3", "٣", "1٣", "1\x00", "\xff", "?"} {
		got, e := nats.Parse(s)
		expectError(t, "Parse("+s+")", got, e, api.ErrForm)
	}
	tooLarge := new(big.Int).Lsh(big.NewInt(1), 512).String()
	for _, s := range []string{tooLarge, "1" + strings.Repeat("0", 155), strings.Repeat("9", 155), strings.Repeat("9", 1<<20+1)} {
		got, e := nats.Parse(s)
		expectError(t, "Parse of a long text", got, e, api.ErrLimit)
	}
	// The form is wrong however large the number before it would be.
	for _, s := range []string{tooLarge + "x", "0" + tooLarge, strings.Repeat("9", 200) + "-"} {
		got, e := nats.Parse(s)
		expectError(t, "Parse of a long text", got, e, api.ErrForm)
	}
}

// P1.7

func TestLawsOfSums(t *testing.T) {
	list := samples(21) // no product of three numbers of 21 bytes is too large
	for _, a := range list {
		for _, b := range list {
			same(t, "Add is commutative", sum(t, a, b), sum(t, b, a))
			same(t, "Mul is commutative", product(t, a, b), product(t, b, a))
			difference, e := nats.Sub(sum(t, a, b), b)
			if e != api.OK {
				t.Errorf("Sub: error %d", e)
			}
			same(t, "Sub inverts Add", difference, a)
			for _, c := range list {
				same(t, "Add is associative", sum(t, sum(t, a, b), c), sum(t, a, sum(t, b, c)))
				same(t, "Mul is associative", product(t, product(t, a, b), c), product(t, a, product(t, b, c)))
				same(t, "Mul distributes over Add", product(t, a, sum(t, b, c)), sum(t, product(t, a, b), product(t, a, c)))
			}
		}
	}
}

func TestLawsOfQuotientsAndTexts(t *testing.T) {
	for _, n := range samples(api.MaxNat) {
		for _, by := range []uint32{1, 2, 10, 1000, math.MaxUint32} {
			quotient, remainder, e := nats.Div(n, by)
			if e != api.OK || remainder >= by {
				t.Errorf("Div(%x, %d): remainder %d, error %d", n, by, remainder, e)
			}
			same(t, "Mul inverts Div", sum(t, product(t, quotient, nats.Of(uint64(by))), nats.Of(uint64(remainder))), n)
		}
		back, e := nats.Parse(nats.Text(n))
		if e != api.OK {
			t.Errorf("Parse: error %d", e)
		}
		same(t, "Parse inverts Text", back, n)
	}
}

func TestCompareIsATotalOrder(t *testing.T) {
	list := samples(api.MaxNat)
	for _, a := range list {
		for _, b := range list {
			order := nats.Compare(a, b)
			if order != value(a).Cmp(value(b)) || order != -nats.Compare(b, a) || (order == 0) != bytes.Equal(a, b) {
				t.Errorf("Compare(%x, %x): %d", a, b, order)
			}
			for _, c := range list {
				if order <= 0 && nats.Compare(b, c) <= 0 && nats.Compare(a, c) > 0 {
					t.Errorf("%x, %x, %x are not in order", a, b, c)
				}
			}
		}
	}
}

func sum(t *testing.T, a, b []byte) []byte {
	t.Helper()
	n, e := nats.Add(a, b)
	if e != api.OK {
		t.Fatalf("Add(%x, %x): error %d", a, b, e)
	}
	return n
}

func product(t *testing.T, a, b []byte) []byte {
	t.Helper()
	n, e := nats.Mul(a, b)
	if e != api.OK {
		t.Fatalf("Mul(%x, %x): error %d", a, b, e)
	}
	return n
}

func same(t *testing.T, law string, a, b []byte) {
	t.Helper()
	if !bytes.Equal(a, b) {
		t.Errorf("%s: %x, %x", law, a, b)
	}
}

// Examples of the chapter

func TestExamples(t *testing.T) {
	if nats.Check([]byte{0, 1}) != api.ErrValue || nats.Check(repeat(1, 65)) != api.ErrLimit || nats.Check(nil) != api.OK {
		t.Error("Check")
	}
	for i, x := range []struct {
		f    func(a, b []byte) ([]byte, api.Errno)
		a, b []byte
		want []byte
		e    api.Errno
	}{
		{nats.Add, []byte{0xff}, []byte{1}, []byte{1, 0}, api.OK},
		{nats.Sub, []byte{1, 0}, []byte{1}, []byte{0xff}, api.OK},
		{nats.Sub, []byte{1}, []byte{2}, nil, api.ErrArg},
		{nats.Mul, []byte{0xff, 0xff}, []byte{0xff, 0xff}, []byte{0xff, 0xfe, 0, 1}, api.OK},
	} {
		if got, e := x.f(x.a, x.b); e != x.e || !bytes.Equal(got, x.want) {
			t.Errorf("%d: %x, error %d", i, got, e)
		}
	}
	if q, r, e := nats.Div([]byte{1, 0, 0}, 7); e != api.OK || r != 2 || !bytes.Equal(q, []byte{0x24, 0x92}) {
		t.Errorf("Div: %x, %d, error %d", q, r, e)
	}
	if p, e := nats.Pow([]byte{2}, 511); e != api.OK || len(p) != 64 {
		t.Errorf("Pow: %d bytes, error %d", len(p), e)
	}
	if nats.Compare([]byte{0, 2}, []byte{2}) != 0 || nats.Compare([]byte{1, 0}, []byte{255}) != 1 || nats.Bits([]byte{1, 0}) != 9 {
		t.Error("Compare, Bits")
	}
	if n, e := nats.Parse("256"); e != api.OK || !bytes.Equal(n, []byte{1, 0}) || nats.Text(n) != "256" {
		t.Errorf("Parse: %x, error %d", n, e)
	}
}

// R4

func TestResultsAreNewMemory(t *testing.T) {
	a, b := []byte{9, 8, 7}, []byte{3, 2}
	calls := map[string]func() []byte{
		"Of":      func() []byte { return nats.Of(258) },
		"Add":     func() []byte { n, _ := nats.Add(a, b); return n },
		"Add 0":   func() []byte { n, _ := nats.Add(a, nil); return n },
		"Sub":     func() []byte { n, _ := nats.Sub(a, b); return n },
		"Sub 0":   func() []byte { n, _ := nats.Sub(a, nil); return n },
		"Mul":     func() []byte { n, _ := nats.Mul(a, b); return n },
		"Mul 1":   func() []byte { n, _ := nats.Mul([]byte{1}, a); return n },
		"Div":     func() []byte { n, _, _ := nats.Div(a, 5); return n },
		"Div 1":   func() []byte { n, _, _ := nats.Div(a, 1); return n },
		"Pow":     func() []byte { n, _ := nats.Pow(a, 2); return n },
		"Pow 0":   func() []byte { n, _ := nats.Pow(a, 0); return n },
		"Pow 1":   func() []byte { n, _ := nats.Pow(a, 1); return n },
		"Pow of1": func() []byte { n, _ := nats.Pow([]byte{1}, 7); return n },
		"Parse":   func() []byte { n, _ := nats.Parse("70000"); return n },
	}
	for name, call := range calls {
		first, second := call(), call()
		kept := bytes.Clone(second)
		if cap(first) != len(first) {
			t.Errorf("%s: %d bytes with the capacity %d", name, len(first), cap(first))
		}
		for i := range first {
			first[i] ^= 0xff
		}
		if !bytes.Equal(second, kept) || !bytes.Equal(call(), kept) {
			t.Errorf("%s: results share memory", name)
		}
	}
	nats.Compare(a, b)
	nats.Text(a)
	if !bytes.Equal(a, []byte{9, 8, 7}) || !bytes.Equal(b, []byte{3, 2}) {
		t.Errorf("arguments are modified: %x, %x", a, b)
	}
}
