package oidsets_test

import (
	"math/rand"
	"regexp"
	"slices"
	"strings"
	"testing"

	"vidimus/api"
	"vidimus/oids"
	"vidimus/oidsets"
	"vidimus/samples"
)

// oid returns an OID with arcs, which need not be valid.
func oid(arcs ...uint32) api.OID {
	o := api.OID{N: uint8(len(arcs))}
	copy(o.Arcs[:], arcs)
	return o
}

// spoilt returns o with an arc beyond its last one, so that it is not valid, but oids.Compare still returns 0 for both.
func spoilt(o api.OID) api.OID {
	o.Arcs[15] = 1
	return o
}

// universe lists valid OIDs in ascending order: prefixes of others, anyPolicy, and some with the most arcs or the greatest ones.
func universe() []api.OID {
	return []api.OID{
		oid(0, 0), oid(1, 2), oid(1, 2, 3), oid(1, 2, 3, 4), oid(1, 2, 3, 4, 5, 6, 7, 8, 9, 10, 11, 12, 13, 14, 15, 16),
		oid(1, 2, 4), oid(1, 2, 1<<32-1), oid(1, 39), oid(2, 5, 29, 32), oid(2, 5, 29, 32, 0), oid(2, 5, 29, 32, 1), oid(2, 1<<32-81),
	}
}

// subset returns those elements of a list whose bits are set.
func subset(list []api.OID, bits int) []api.OID {
	var l []api.OID
	for i, o := range list {
		if bits>>i&1 == 1 {
			l = append(l, o)
		}
	}
	return l
}

// numbered returns the set of n OIDs, the first of which has the given last arc.
func numbered(first, n uint32) []api.OID {
	var l []api.OID
	for i := range n {
		l = append(l, oid(2, 999, first+i))
	}
	return l
}

// invalid lists lists that are not valid sets, with their errors.
func invalid() []struct {
	l []api.OID
	e api.Errno
} {
	return []struct {
		l []api.OID
		e api.Errno
	}{
		{[]api.OID{{}}, api.ErrArg},
		{[]api.OID{oid(3, 1)}, api.ErrArg},
		{[]api.OID{spoilt(oid(1, 2))}, api.ErrArg},
		{[]api.OID{{N: 17}}, api.ErrArg},
		{[]api.OID{oid(1, 2), oid(1)}, api.ErrArg},
		{[]api.OID{oid(1, 2), oid(1, 2)}, api.ErrTwice},
		{[]api.OID{oid(1, 2), oid(1, 3), oid(1, 3)}, api.ErrTwice},
		{[]api.OID{oid(1, 3), oid(1, 2)}, api.ErrOrder},
		{[]api.OID{oid(1, 2, 3), oid(1, 2)}, api.ErrOrder},
		{[]api.OID{oid(1, 2), oid(1, 3), oid(1, 2)}, api.ErrOrder},
		{numbered(0, 257), api.ErrLimit},
		{make([]api.OID, 257), api.ErrLimit},
		{slices.Repeat([]api.OID{oid(1, 2)}, 1000), api.ErrLimit},
	}
}

// check returns what Check must return, after the chapter.
func check(l []api.OID) api.Errno {
	if len(l) > 256 {
		return api.ErrLimit
	}
	for i, o := range l {
		if oids.Check(o) != api.OK {
			return api.ErrArg
		}
		if i > 0 && o == l[i-1] {
			return api.ErrTwice
		}
		if i > 0 && oids.Compare(o, l[i-1]) < 0 {
			return api.ErrOrder
		}
	}
	return api.OK
}

// sorted returns what Of must return, after the chapter: the elements are inserted one after another.
func sorted(list []api.OID) ([]api.OID, api.Errno) {
	var l []api.OID
	for _, o := range list {
		if oids.Check(o) != api.OK {
			return nil, api.ErrArg
		}
		i := 0
		for i < len(l) && oids.Compare(l[i], o) < 0 {
			i++
		}
		if i == len(l) || l[i] != o {
			l = slices.Insert(l, i, o)
		}
	}
	if len(l) > 256 {
		return nil, api.ErrLimit
	}
	return l, api.OK
}

// form matches the texts that Parse does not answer by ErrForm before it looks at their strings, and word each of these.
var (
	form = regexp.MustCompile(`^\{(|[^ ]+( [^ ]+)*)\}$`)
	word = regexp.MustCompile(`[^ ]+`)
)

// read returns what Parse must return, after the chapter.
func read(s string) ([]api.OID, api.Errno) {
	if !form.MatchString(s) {
		return nil, api.ErrForm
	}
	var l []api.OID
	for _, element := range word.FindAllString(s[1:len(s)-1], -1) {
		o, e := oids.Parse(element)
		if e != api.OK {
			return nil, e
		}
		l = append(l, o)
	}
	if e := check(l); e != api.OK {
		return nil, e
	}
	return l, api.OK
}

// checkResult compares a result with the one that is wanted; it must have no spare capacity.
func checkResult(t *testing.T, what string, l []api.OID, e api.Errno, want []api.OID, wantError api.Errno) {
	t.Helper()
	if e != wantError || !slices.Equal(l, want) {
		t.Errorf("%s: %v, error %d, want %v, error %d", what, l, e, want, wantError)
	}
	if cap(l) != len(l) {
		t.Errorf("%s: %d elements with the capacity %d", what, len(l), cap(l))
	}
}

// P7.1

func TestCheck(t *testing.T) {
	list := universe()
	for bits := range 1 << len(list) {
		if e := oidsets.Check(subset(list, bits)); e != api.OK {
			t.Errorf("Check of the elements %b: error %d", bits, e)
		}
	}
	alphabet := []api.OID{{}, oid(1, 2), spoilt(oid(1, 2)), oid(1, 2, 3), oid(1, 3), oids.Any(), oid(3, 0)}
	samples.Lists(alphabet, 5, func(l []api.OID) {
		if e := oidsets.Check(l); e != check(l) {
			t.Errorf("Check(%v): error %d, want %d", l, e, check(l))
		}
	})
	for _, x := range invalid() {
		if e := oidsets.Check(x.l); e != x.e {
			t.Errorf("Check(%v): error %d, want %d", x.l, e, x.e)
		}
	}
}

func TestCheckOfLongLists(t *testing.T) {
	for n, want := range map[uint32]api.Errno{0: api.OK, 1: api.OK, 255: api.OK, 256: api.OK, 257: api.ErrLimit, 258: api.ErrLimit, 512: api.ErrLimit, 100000: api.ErrLimit} {
		if e := oidsets.Check(numbered(0, n)); e != want {
			t.Errorf("Check of %d elements: error %d, want %d", n, e, want)
		}
	}
	for _, i := range []int{1, 128, 254, 255} {
		for _, o := range []api.OID{{}, oid(2, 999, uint32(i-1)), oid(1, 2), oid(3, 0), oid(2, 1000)} {
			l := numbered(0, 256)
			l[i] = o
			if e := oidsets.Check(l); e != check(l) {
				t.Errorf("Check of 256 elements with %v at %d: error %d, want %d", o, i, e, check(l))
			}
			if e := oidsets.Check(append(l, oid(2, 1001))); e != api.ErrLimit {
				t.Errorf("Check of 257 elements with %v at %d: error %d", o, i, e)
			}
		}
	}
}

// TestCheckErrors has one case for each two errors of which one comes first.
func TestCheckErrors(t *testing.T) {
	a, b, c := oid(1, 2), oid(1, 3), oid(1, 4)
	for _, x := range []struct {
		l []api.OID
		e api.Errno
	}{
		{[]api.OID{{}, b, b, a}, api.ErrArg},
		{[]api.OID{b, b, {}, a}, api.ErrTwice},
		{[]api.OID{b, b, a}, api.ErrTwice},
		{[]api.OID{b, a, a}, api.ErrOrder},
		{[]api.OID{b, a, {}}, api.ErrOrder},
		{[]api.OID{b, {}, a}, api.ErrArg},
		{[]api.OID{b, spoilt(b)}, api.ErrArg},
		{[]api.OID{b, spoilt(a)}, api.ErrArg},
		{[]api.OID{spoilt(b), b}, api.ErrArg},
		{[]api.OID{a, c, b, c}, api.ErrOrder},
		{append(numbered(0, 256), api.OID{}), api.ErrLimit},
		{append([]api.OID{{}}, numbered(0, 256)...), api.ErrLimit},
		{append(numbered(0, 1), numbered(0, 256)...), api.ErrLimit},
		{append(numbered(1, 1), numbered(0, 256)...), api.ErrLimit},
	} {
		if e := oidsets.Check(x.l); e != x.e {
			t.Errorf("Check(%v): error %d, want %d", x.l, e, x.e)
		}
	}
}

// P7.2

func TestOf(t *testing.T) {
	of := func(list []api.OID) {
		l, e := oidsets.Of(list)
		want, wantError := sorted(list)
		checkResult(t, "Of", l, e, want, wantError)
	}
	samples.Lists([]api.OID{{}, oid(1, 2), oid(1, 2, 3), oid(1, 3), oids.Any()}, 5, of)
	random := rand.New(rand.NewSource(1))
	list := universe()
	for range 2000 {
		var l []api.OID
		for range random.Intn(40) {
			l = append(l, list[random.Intn(len(list))])
		}
		of(l)
		for _, o := range []api.OID{{}, oid(3, 0), spoilt(list[random.Intn(len(list))])} {
			of(slices.Insert(slices.Clone(l), random.Intn(len(l)+1), o))
		}
	}
}

func TestOfManyOIDs(t *testing.T) {
	random := rand.New(rand.NewSource(2))
	for n, want := range map[uint32]api.Errno{255: api.OK, 256: api.OK, 257: api.ErrLimit, 258: api.ErrLimit, 300: api.ErrLimit, 2000: api.ErrLimit} {
		for _, times := range []int{1, 2, 7} {
			l := slices.Repeat(numbered(5, n), times)
			random.Shuffle(len(l), func(i, k int) { l[i], l[k] = l[k], l[i] })
			set := numbered(5, n)
			if want != api.OK {
				set = nil
			}
			got, e := oidsets.Of(l)
			checkResult(t, "Of many OIDs", got, e, set, want)
			for _, i := range []int{0, len(l) / 2, len(l)} { // ErrArg comes before ErrLimit
				got, e := oidsets.Of(slices.Insert(slices.Clone(l), i, api.OID{}))
				checkResult(t, "Of many OIDs and the zero OID", got, e, nil, api.ErrArg)
			}
		}
	}
	l, e := oidsets.Of(slices.Repeat([]api.OID{oids.Any()}, 100000))
	checkResult(t, "Of one OID many times", l, e, []api.OID{oids.Any()}, api.OK)
}

// P7.3

func TestHas(t *testing.T) {
	list := universe()
	for bits := range 1 << len(list) {
		l := subset(list, bits)
		for i, o := range list {
			isElement := bits>>i&1 == 1
			if oidsets.Has(l, o) != isElement {
				t.Errorf("Has(%v, %v) is not %v", l, o, isElement)
			}
			if oids.IsAny(o) && oidsets.HasAny(l) != isElement {
				t.Errorf("HasAny(%v) is not %v", l, isElement)
			}
		}
	}
}

func TestHasOfOtherOIDs(t *testing.T) {
	list := universe()
	for _, o := range list {
		more := o
		more.N++
		fewer := o
		fewer.N--
		for _, other := range []api.OID{{}, spoilt(oid(1, 2)), spoilt(o), more, fewer, {N: 255, Arcs: o.Arcs}, {N: 16, Arcs: o.Arcs}, oid(3, 0), oid(1, 2, 3, 5), oid(2, 5, 29, 32, 0, 0), oid(2, 5, 29)} {
			if !slices.Contains(list, other) && oidsets.Has(list, other) {
				t.Errorf("Has(.., %v) is true", other)
			}
		}
	}
	if oidsets.HasAny([]api.OID{oid(2, 5, 29, 32), oid(2, 5, 29, 32, 0, 0), oid(2, 5, 29, 32, 1)}) {
		t.Error("HasAny is true for policies beside anyPolicy")
	}
}

func TestHasOfLongSets(t *testing.T) {
	l := numbered(1, 256)
	for i := range uint32(258) {
		if oidsets.Has(l, oid(2, 999, i)) != (i > 0 && i < 257) {
			t.Errorf("Has of 256 elements is wrong for %d", i)
		}
	}
	l[255] = oid(2, 1000)
	if oidsets.HasAny(l) {
		t.Error("HasAny of 256 others is true")
	}
	l = append(oneAndAny(), numbered(1, 254)...)
	if !oidsets.HasAny(l) || !oidsets.Has(l, l[255]) {
		t.Error("HasAny of 256 elements with anyPolicy is false")
	}
	l = append(oneAndAny(), numbered(1, 255)...)
	if oidsets.HasAny(l) || oidsets.Has(l, l[0]) {
		t.Error("HasAny of 257 elements is true")
	}
}

// oneAndAny returns the set of 1.2 and anyPolicy.
func oneAndAny() []api.OID { return []api.OID{oid(1, 2), oids.Any()} }

func TestHasOfInvalidSets(t *testing.T) {
	for _, x := range invalid() {
		for _, o := range append(x.l, oid(1, 2), api.OID{}) {
			if oidsets.Has(x.l, o) {
				t.Errorf("Has(%v, %v) is true", x.l, o)
			}
		}
	}
	for _, l := range [][]api.OID{{oids.Any(), oid(1, 2)}, {oids.Any(), oids.Any()}, {oids.Any(), {}}, {{}, oids.Any()}, {spoilt(oids.Any())}} {
		if oidsets.HasAny(l) || oidsets.Has(l, l[0]) {
			t.Errorf("HasAny(%v) is true", l)
		}
	}
}

// P7.4

// operations lists the functions of two sets: with what they return, after the chapter, for an element of a, of b.
func operations() []struct {
	name string
	do   func(a, b []api.OID) ([]api.OID, api.Errno)
	bits func(a, b int) int
} {
	return []struct {
		name string
		do   func(a, b []api.OID) ([]api.OID, api.Errno)
		bits func(a, b int) int
	}{
		{"Union", oidsets.Union, func(a, b int) int { return a | b }},
		{"Common", oidsets.Common, func(a, b int) int { return a & b }},
		{"Minus", oidsets.Minus, func(a, b int) int { return a &^ b }},
	}
}

func TestOperations(t *testing.T) {
	list := universe()
	few := append(list[1:4:4], list[7:10]...)
	for _, x := range operations() {
		for a := range 1 << len(few) {
			for b := range 1 << len(few) {
				l, e := x.do(subset(few, a), subset(few, b))
				checkResult(t, x.name, l, e, subset(few, x.bits(a, b)), api.OK)
			}
		}
		random := rand.New(rand.NewSource(3))
		for range 5000 {
			a, b := random.Intn(1<<len(list)), random.Intn(1<<len(list))
			l, e := x.do(subset(list, a), subset(list, b))
			checkResult(t, x.name, l, e, subset(list, x.bits(a, b)), api.OK)
		}
	}
}

func TestOperationsOnLongSets(t *testing.T) {
	for _, x := range []struct{ first, n, second, m uint32 }{
		{0, 256, 0, 256}, {0, 256, 0, 0}, {0, 0, 0, 256}, {0, 128, 128, 128}, {128, 128, 0, 128}, {0, 128, 64, 192}, {0, 1, 1, 255}, {0, 255, 255, 1}, {0, 256, 255, 1}, {0, 256, 0, 1},
		{0, 256, 256, 1}, {1, 256, 0, 1}, {0, 128, 128, 129}, {0, 129, 129, 128}, {0, 256, 1, 256}, {1, 256, 0, 256}, {0, 256, 256, 256}, {256, 256, 0, 256}, {0, 256, 1000, 2},
	} {
		a, b := numbered(x.first, x.n), numbered(x.second, x.m)
		var union, common, minus []api.OID
		for i := range uint32(2000) {
			o := oid(2, 999, i)
			inA, inB := slices.Contains(a, o), slices.Contains(b, o)
			if inA || inB {
				union = append(union, o)
			}
			if inA && inB {
				common = append(common, o)
			}
			if inA && !inB {
				minus = append(minus, o)
			}
		}
		want := api.OK
		if len(union) > 256 {
			union, want = nil, api.ErrLimit
		}
		l, e := oidsets.Union(a, b)
		checkResult(t, "Union", l, e, union, want)
		l, e = oidsets.Common(a, b)
		checkResult(t, "Common", l, e, common, api.OK)
		l, e = oidsets.Minus(a, b)
		checkResult(t, "Minus", l, e, minus, api.OK)
	}
}

func TestOperationsOnInvalidSets(t *testing.T) {
	for _, x := range operations() {
		for _, bad := range invalid() {
			for _, good := range [][]api.OID{nil, {}, {oid(1, 2)}, universe(), numbered(0, 256)} {
				l, e := x.do(bad.l, good)
				checkResult(t, x.name, l, e, nil, bad.e)
				l, e = x.do(good, bad.l)
				checkResult(t, x.name, l, e, nil, bad.e)
			}
			for _, other := range invalid() { // the error of the first one
				l, e := x.do(bad.l, other.l)
				checkResult(t, x.name, l, e, nil, bad.e)
			}
		}
	}
}

// P7.5

func TestWithinAndSame(t *testing.T) {
	list := universe()
	few := append(list[1:4:4], list[7:10]...)
	compare := func(list []api.OID, a, b int) {
		l, k := subset(list, a), subset(list, b)
		if got := oidsets.Within(l, k); got != (a&^b == 0) {
			t.Errorf("Within(%v, %v): %v", l, k, got)
		}
		if got := oidsets.Same(l, k); got != (a == b) {
			t.Errorf("Same(%v, %v): %v", l, k, got)
		}
	}
	for a := range 1 << len(few) {
		for b := range 1 << len(few) {
			compare(few, a, b)
		}
	}
	random := rand.New(rand.NewSource(4))
	for range 5000 {
		a, b := random.Intn(1<<len(list)), random.Intn(1<<len(list))
		compare(list, a, b)
		compare(list, a&b, b)
		compare(list, a|b, b)
		compare(list, a, a)
	}
}

func TestWithinAndSameOfLongSets(t *testing.T) {
	a := numbered(0, 256)
	for n := range uint32(257) {
		b := numbered(256-n, n)
		if !oidsets.Within(b, a) || oidsets.Within(a, b) != (n == 256) || oidsets.Same(a, b) != (n == 256) {
			t.Errorf("256 elements and the last %d ones of them", n)
		}
	}
	if oidsets.Within(a, numbered(0, 257)) || oidsets.Within(numbered(0, 257), numbered(0, 257)) || oidsets.Same(numbered(0, 257), numbered(0, 257)) {
		t.Error("257 elements")
	}
}

func TestWithinAndSameOfInvalidSets(t *testing.T) {
	for _, x := range invalid() {
		others := [][]api.OID{nil, {oid(1, 2)}, universe(), numbered(0, 256), x.l, slices.Clone(x.l)}
		for _, y := range invalid() {
			others = append(others, y.l)
		}
		for _, other := range others {
			if oidsets.Within(x.l, other) || oidsets.Within(other, x.l) || oidsets.Same(x.l, other) || oidsets.Same(other, x.l) {
				t.Errorf("Within or Same is true for %v and %v", x.l, other)
			}
		}
	}
	// What makes them invalid makes them no equal of the valid ones.
	l, bad := oneAndAny(), []api.OID{oid(1, 2), spoilt(oids.Any())}
	if oidsets.Within(bad, l) || oidsets.Within(l, bad) || oidsets.Same(bad, l) || oidsets.Same(l, bad) {
		t.Error("an arc that does not count")
	}
}

// P7.6

func TestText(t *testing.T) {
	list := universe()
	for bits := range 1 << len(list) {
		l := subset(list, bits)
		want := "{"
		for i, o := range l {
			if i > 0 {
				want += " "
			}
			want += oids.Text(o)
		}
		want += "}"
		if s := oidsets.Text(l); s != want {
			t.Errorf("Text(%v): %q, want %q", l, s, want)
		}
	}
	for _, x := range invalid() {
		if s := oidsets.Text(x.l); s != "?" {
			t.Errorf("Text(%v): %q", x.l, s)
		}
	}
}

// checkParse checks that Parse returns what the chapter asks for.
func checkParse(t *testing.T, s string) {
	t.Helper()
	l, e := oidsets.Parse(s)
	want, wantError := read(s)
	if e != wantError || !slices.Equal(l, want) || cap(l) != len(l) {
		t.Errorf("Parse(%.100q): %v, error %d, want %v, error %d", s, l, e, want, wantError)
	}
}

func TestParse(t *testing.T) {
	samples.Lists([]byte("{} .134"), 6, func(b []byte) { checkParse(t, string(b)) })
	samples.Lists([]byte("{} .13"), 5, func(b []byte) { checkParse(t, "{"+string(b)+"}") })
	samples.Lists([]string{"1.2", "1.3", "3.1", "1.2.4294967296", "1.2.03", "x", " ", "  ", "{", "}"}, 4, func(words []string) {
		checkParse(t, "{"+strings.Join(words, " ")+"}")
		checkParse(t, "{"+strings.Join(words, "")+"}")
		checkParse(t, strings.Join(words, " "))
	})
}

func TestParseOfChangedTexts(t *testing.T) {
	for _, text := range []string{"{}", "{1.2}", "{1.2.3 1.2.4}", "{1.2 1.2.3 2.5.29.32.0}"} {
		checkParse(t, text)
		for octet := range 256 {
			added := string([]byte{byte(octet)})
			for i := range len(text) {
				checkParse(t, text[:i]+added+text[i:])
				checkParse(t, text[:i]+added+text[i+1:])
			}
			checkParse(t, text+added)
		}
		for i := range len(text) {
			checkParse(t, text[:i])
			checkParse(t, text[:i]+text[i+1:])
			checkParse(t, text[i:])
			checkParse(t, text[i:]+text[:i])
		}
		for _, added := range []string{"\u00a0", "\u2003", "\r\n", "\ufeff"} { // not the one space
			checkParse(t, strings.ReplaceAll(text, " ", added))
			checkParse(t, text+added)
			checkParse(t, added+text)
		}
	}
}

// TestParseErrors has one case for each error, and for each two of which one comes first.
func TestParseErrors(t *testing.T) {
	for s, want := range map[string]api.Errno{
		"":                         api.ErrForm,
		"?":                        api.ErrForm,
		"{":                        api.ErrForm,
		"}":                        api.ErrForm,
		"}{":                       api.ErrForm,
		"{ }":                      api.ErrForm,
		"{{}}":                     api.ErrForm,
		" {}":                      api.ErrForm,
		"{} ":                      api.ErrForm,
		"{1.2.3":                   api.ErrForm,
		"1.2.3}":                   api.ErrForm,
		"{1.2.3,1.2.4}":            api.ErrForm,
		"{1.2.3\t1.2.4}":           api.ErrForm,
		"{1.2.3\n1.2.4}":           api.ErrForm,
		"{3.1}":                    api.ErrArg,
		"{1}":                      api.ErrArg,
		"{1.2.4294967296}":         api.ErrLimit,
		"{1.2 1.2}":                api.ErrTwice,
		"{1.3 1.2}":                api.ErrOrder,
		"{3.1 }":                   api.ErrForm, // no string may be empty, whatever the others are
		"{ 3.1}":                   api.ErrForm,
		"{3.1  1.2}":               api.ErrForm,
		"{3.1 1.2":                 api.ErrForm,
		"{1.2 1.2 }":               api.ErrForm,
		"{3.1 x}":                  api.ErrArg, // the first string with an error
		"{3.1 }}":                  api.ErrArg,
		"{x 3.1}":                  api.ErrForm,
		"{{ 3.1}":                  api.ErrForm,
		"{3.1 1.2\t}":              api.ErrArg,
		"{1.2.4294967296 x 3.1}":   api.ErrLimit,
		"{1.2 3.1 1.2.4294967296}": api.ErrArg,
		"{1.2 1.2 3.1}":            api.ErrArg, // before the errors of the set
		"{1.3 1.2 x}":              api.ErrForm,
		"{1.3 1.2 1.2}":            api.ErrOrder,
		"{1.2 1.2 1.1}":            api.ErrTwice,
	} {
		if l, e := oidsets.Parse(s); e != want || len(l) > 0 {
			t.Errorf("Parse(%q): %v, error %d, want %d", s, l, e, want)
		}
	}
}

func TestParseOfLongTexts(t *testing.T) {
	text := func(l []api.OID) string {
		var words []string
		for _, o := range l {
			words = append(words, oids.Text(o))
		}
		return strings.Join(words, " ")
	}
	for _, n := range []uint32{255, 256, 257, 258, 1000, 5000} {
		words := text(numbered(0, n))
		checkParse(t, "{"+words+"}")
		checkParse(t, "{"+words+" 1.2}")
		checkParse(t, "{1.2 1.2 "+words+"}")
		checkParse(t, "{"+words+" 3.1}") // its error comes before ErrLimit
		checkParse(t, "{"+words+" x}")
		checkParse(t, "{"+words+" 1.2.4294967296 x}")
		checkParse(t, "{3.1 "+words+" }")
		checkParse(t, "{"+words)
	}
	most := slices.Repeat([]uint32{1<<32 - 1}, 16)
	most[0], most[1] = 2, 1<<32-81
	var l []api.OID
	for i := range uint32(256) {
		most[15] = 1<<32 - 256 + i
		l = append(l, oid(most...))
	}
	checkParse(t, "{"+text(l)+"}")
	if got, e := oidsets.Parse(oidsets.Text(l)); e != api.OK || !slices.Equal(got, l) {
		t.Errorf("the longest text: %d elements, error %d", len(got), e)
	}
	for _, s := range []string{" ", "{}", "1.2 ", "1.2"} {
		many := strings.Repeat(s, api.MaxText/len(s)+1)
		checkParse(t, "{"+many+"}")
		checkParse(t, "{3.1 "+many+"}")
	}
}

// P7.7

func TestOperationsAreAnAlgebra(t *testing.T) {
	list := universe()[2:6]
	union := func(a, b []api.OID) []api.OID { l, _ := oidsets.Union(a, b); return l }
	common := func(a, b []api.OID) []api.OID { l, _ := oidsets.Common(a, b); return l }
	minus := func(a, b []api.OID) []api.OID { l, _ := oidsets.Minus(a, b); return l }
	for i := range 1 << len(list) {
		a := subset(list, i)
		if !slices.Equal(union(a, a), a) || !slices.Equal(common(a, a), a) {
			t.Errorf("idempotent: %v", a)
		}
		for j := range 1 << len(list) {
			b := subset(list, j)
			if !slices.Equal(union(a, b), union(b, a)) || !slices.Equal(common(a, b), common(b, a)) {
				t.Errorf("commutative: %v, %v", a, b)
			}
			if len(common(minus(a, b), common(a, b))) > 0 || !slices.Equal(union(minus(a, b), common(a, b)), a) {
				t.Errorf("Minus and Common: %v, %v", a, b)
			}
			for k := range 1 << len(list) {
				c := subset(list, k)
				if !slices.Equal(union(a, union(b, c)), union(union(a, b), c)) || !slices.Equal(common(a, common(b, c)), common(common(a, b), c)) {
					t.Errorf("associative: %v, %v, %v", a, b, c)
				}
				if !slices.Equal(union(a, common(b, c)), common(union(a, b), union(a, c))) || !slices.Equal(common(a, union(b, c)), union(common(a, b), common(a, c))) {
					t.Errorf("distributive: %v, %v, %v", a, b, c)
				}
			}
		}
	}
}

func TestConsequences(t *testing.T) {
	list := universe()
	random := rand.New(rand.NewSource(5))
	for bits := range 1 << len(list) {
		l := subset(list, bits)
		got, e := oidsets.Parse(oidsets.Text(l))
		checkResult(t, "Parse(Text)", got, e, l, api.OK)
		got, e = oidsets.Of(l)
		checkResult(t, "Of a set", got, e, l, api.OK)
		mixed := append(slices.Clone(l), l[:len(l)/2]...)
		random.Shuffle(len(mixed), func(i, k int) { mixed[i], mixed[k] = mixed[k], mixed[i] })
		got, e = oidsets.Of(mixed)
		checkResult(t, "Of a set in another order", got, e, l, api.OK)
	}
}

// R3 and R4

func TestResultsAreNewMemory(t *testing.T) {
	list := universe()
	a, b := list[:8], list[4:]
	before := slices.Clone(list)
	results := func() [][]api.OID {
		var all [][]api.OID
		for _, x := range operations() {
			for _, pair := range [][2][]api.OID{{a, b}, {b, a}, {a, a}, {a, nil}, {nil, a}} {
				l, _ := x.do(pair[0], pair[1])
				all = append(all, l)
			}
		}
		l, _ := oidsets.Of(list)
		k, _ := oidsets.Of(list[:1])
		m, _ := oidsets.Parse(oidsets.Text(list))
		return append(all, l, k, m)
	}
	want := results()
	for i, l := range results() {
		for k := range l {
			l[k] = oid(3, 3)
		}
		for k, other := range results() {
			if !slices.Equal(other, want[k]) {
				t.Fatalf("result %d changes with result %d", k, i)
			}
		}
	}
	if !slices.Equal(list, before) {
		t.Error("an argument changes with a result")
	}
}

func TestArgumentsAreNotModified(t *testing.T) {
	for _, x := range invalid() {
		for _, l := range [][]api.OID{x.l, slices.Concat(universe(), x.l), slices.Concat(x.l, universe())} {
			before := slices.Clone(l)
			oidsets.Check(l)
			oidsets.Of(l)
			oidsets.Has(l, oid(1, 2))
			oidsets.HasAny(l)
			for _, op := range operations() {
				op.do(l, l)
			}
			oidsets.Within(l, l)
			oidsets.Same(l, l)
			oidsets.Text(l)
			if !slices.Equal(l, before) {
				t.Errorf("%v is modified", before)
			}
		}
	}
	// Nor what stands behind an argument in its memory.
	list := numbered(0, 20)
	l, k := list[:5], list[10:15]
	for _, op := range operations() {
		op.do(l, k)
		op.do(k, l)
	}
	oidsets.Of(l)
	if !slices.Equal(list, numbered(0, 20)) {
		t.Error("the memory behind an argument is modified")
	}
}

func TestNilAndEmptyListsAreEqual(t *testing.T) {
	for _, a := range [][]api.OID{nil, {}} {
		for _, b := range [][]api.OID{nil, {}} {
			for _, op := range operations() {
				if l, e := op.do(a, b); len(l) > 0 || e != api.OK {
					t.Errorf("%s of empty sets: %v, error %d", op.name, l, e)
				}
			}
			if !oidsets.Within(a, b) || !oidsets.Same(a, b) {
				t.Error("empty sets are not the same")
			}
		}
		if l, e := oidsets.Of(a); len(l) > 0 || e != api.OK {
			t.Errorf("Of no OIDs: %v, error %d", l, e)
		}
		if oidsets.Check(a) != api.OK || oidsets.Has(a, oid(1, 2)) || oidsets.Has(a, api.OID{}) || oidsets.HasAny(a) || oidsets.Text(a) != "{}" {
			t.Error("the empty set is not the empty set")
		}
	}
}

// The examples of the chapter.

func TestExamples(t *testing.T) {
	first, second := oid(1, 2, 3), oid(1, 2, 4)
	a, b := []api.OID{first, second}, []api.OID{second, oids.Any()}
	for _, x := range []struct {
		l []api.OID
		e api.Errno
	}{{[]api.OID{second, first}, api.ErrOrder}, {[]api.OID{first, first}, api.ErrTwice}, {[]api.OID{{}}, api.ErrArg}} {
		if e := oidsets.Check(x.l); e != x.e {
			t.Errorf("Check(%v): error %d, want %d", x.l, e, x.e)
		}
	}
	of, e := oidsets.Of([]api.OID{second, first, second})
	checkResult(t, "Of", of, e, a, api.OK)
	union, e := oidsets.Union(a, b)
	checkResult(t, "Union", union, e, []api.OID{first, second, oids.Any()}, api.OK)
	common, e := oidsets.Common(a, b)
	checkResult(t, "Common", common, e, []api.OID{second}, api.OK)
	minus, e := oidsets.Minus(a, b)
	checkResult(t, "Minus", minus, e, []api.OID{first}, api.OK)
	if !oidsets.Has(a, second) || oidsets.HasAny(a) || !oidsets.HasAny(b) || !oidsets.Within(common, a) || oidsets.Same(a, b) {
		t.Error("Has, HasAny, Within, Same")
	}
	if oidsets.Text(a) != "{1.2.3 1.2.4}" || oidsets.Text(nil) != "{}" {
		t.Errorf("Text: %q, %q", oidsets.Text(a), oidsets.Text(nil))
	}
	for s, want := range map[string]struct {
		l []api.OID
		e api.Errno
	}{"{1.2.3 1.2.4}": {a, api.OK}, "{}": {nil, api.OK}, "{1.2.4 1.2.3}": {nil, api.ErrOrder}, "{1.2.3  1.2.4}": {nil, api.ErrForm}, "{1.2.03}": {nil, api.ErrForm}, "1.2.3": {nil, api.ErrForm}} {
		l, e := oidsets.Parse(s)
		checkResult(t, "Parse "+s, l, e, want.l, want.e)
	}
}
