package charstrings_test

import (
	"bytes"
	"cmp"
	"encoding/asn1"
	"encoding/binary"
	"math"
	"math/rand"
	"slices"
	"strings"
	"testing"
	"unicode/utf16"

	"vidimus/api"
	"vidimus/charstrings"
	"vidimus/elements"
	"vidimus/samples"
)

// maxBytes is the limit of the chapter.
const maxBytes = 65536

// kinds lists the kinds of the chapter in ascending order.
func kinds() []uint32 {
	return []uint32{12, 19, 22, 26, 30}
}

// otherKinds lists numbers that are no kinds.
func otherKinds() []uint32 {
	list := []uint32{math.MaxUint32}
	for n := range uint32(40) {
		if !slices.Contains(kinds(), n) {
			list = append(list, n)
		}
	}
	for _, k := range kinds() {
		list = append(list, 1<<7|k, 1<<8|k, 1<<16|k, 1<<31|k, 10*k, -k, ^k)
	}
	return list
}

// repertoire tells of every code point whether it is a character of a kind.
type repertoire []bool

// mark adds the characters from first to last, without the surrogates.
func (r repertoire) mark(first, last rune) {
	for c := first; c <= last; c++ {
		r[c] = c < 0xd800 || c > 0xdfff
	}
}

// repertoires returns the characters of the kinds, after the table of the chapter.
func repertoires() map[uint32]repertoire {
	table := map[uint32]repertoire{}
	for _, k := range kinds() {
		table[k] = make(repertoire, 0x110000)
	}
	for _, c := range "ABCDEFGHIJKLMNOPQRSTUVWXYZabcdefghijklmnopqrstuvwxyz0123456789 '()+,-./:=?" {
		table[19].mark(c, c)
	}
	table[12].mark(1, 0x10ffff)
	table[22].mark(1, 0x7f)
	table[26].mark(0x20, 0x7e)
	table[30].mark(1, 0xffff)
	return table
}

// isText reports whether a text is valid UTF-8: a conversion would replace what is not.
func isText(text string) bool {
	return string([]rune(text)) == text
}

// reference tells what the chapter requires.
type reference struct {
	has map[uint32]repertoire
}

func newReference() reference {
	return reference{repertoires()}
}

// hasAll reports whether all characters are of a kind.
func (r reference) hasAll(kind uint32, characters []rune) bool {
	return !slices.ContainsFunc(characters, func(c rune) bool { return !r.has[kind][c] })
}

// check returns the error of a character string.
func (r reference) check(s api.CharString) api.Errno {
	switch {
	case r.has[s.Kind] == nil:
		return api.ErrTag
	case len(s.Text) > maxBytes:
		return api.ErrLimit
	case !isText(s.Text) || !r.hasAll(s.Kind, []rune(s.Text)):
		return api.ErrValue
	}
	return api.OK
}

// put returns the content octets of a valid character string.
func (r reference) put(s api.CharString) []byte {
	var b []byte
	for _, c := range []rune(s.Text) {
		switch s.Kind {
		case 12:
			b = append(b, string(c)...)
		case 30:
			b = binary.BigEndian.AppendUint16(b, uint16(c))
		default:
			b = append(b, uint8(c))
		}
	}
	return b
}

// get returns the character string with content octets, and its error.
func (r reference) get(kind uint32, b []byte) (api.CharString, api.Errno) {
	if r.has[kind] == nil {
		return api.CharString{}, api.ErrTag
	}
	if len(b) > 2*maxBytes {
		return api.CharString{}, api.ErrLimit
	}
	var characters []rune
	switch {
	case kind == 12 && isText(string(b)):
		characters = []rune(string(b))
	case kind == 30 && len(b)%2 == 0:
		for i := 0; i < len(b); i += 2 {
			characters = append(characters, rune(binary.BigEndian.Uint16(b[i:])))
		}
	case kind == 12 || kind == 30:
		return api.CharString{}, api.ErrValue
	default:
		for _, octet := range b {
			characters = append(characters, rune(octet))
		}
	}
	if !r.hasAll(kind, characters) {
		return api.CharString{}, api.ErrValue
	}
	s := api.CharString{Kind: kind, Text: string(characters)}
	if len(s.Text) > maxBytes {
		return api.CharString{}, api.ErrLimit
	}
	return s, api.OK
}

// texts lists texts, most of which are valid for some kinds and not for others.
func texts() []string {
	list := []string{
		"abc", "a@b", "a*b", "a&b", "A z-9?", "http://example.org/cps", "~", "\x7f", "\t", "\x1f", " ", "\x00", "a\x00", "\x00a",
		"é", "aé", "éa", "a€", "\u07ff", "\u0800", "\ud7ff", "\ue000", "\ufeff", "\ufffd", "a\ufffdb", "\ufffe", "\uffff", "\U00010000", "😀", "a😀", "\U0010ffff", "é\U00010000",
		"\xff", "\x80", "a\x80", "\xc3", "é\xc3", "\xc3a", "\xc0\x80", "\xc1\xbf", "\xe0\x9f\xbf", "\xe0\xa0", "\xed\xa0\x80", "\xed\xbf\xbf", "\xed\x9f\xbf", "\xee\x80\x80", "\xef\xbf\xbd", "\xef\xbf",
		"\xf0\x8f\xbf\xbf", "\xf0\x90\x80\x80", "\xf0\x90\x80", "\xf4\x8f\xbf\xbf", "\xf4\x90\x80\x80", "\xf5\x80\x80\x80", "\xf8\x88\x80\x80\x80", "\xed\xa0\xbd\xed\xb8\x80",
	}
	random := rand.New(rand.NewSource(1))
	limits := []int{0x60, 0x80, 0x100, 0x800, 0x10000, 0x110000}
	for n := range 400 {
		characters := make([]rune, n%90)
		for i := range characters {
			characters[i] = rune(1 + random.Intn(limits[n%len(limits)]-1)) // a surrogate becomes U+FFFD
		}
		list = append(list, string(characters))
	}
	return list
}

// long is a text of a size whose characters are all the same, except for the last one.
func long(size int, character, last string) string {
	return strings.Repeat(character, (size-len(last))/len(character)) + last
}

// longTexts lists texts on both sides of the limit, and much longer ones.
func longTexts() []string {
	list := []string{strings.Repeat("a", 1<<20), strings.Repeat("\xff", 1<<20), strings.Repeat("é", 131072)}
	for size := maxBytes - 2; size <= maxBytes+6; size++ {
		for _, last := range []string{"", "?", "_", "~", "\x7f", "\x00", "é", "\uffff", "😀", "\xff", "\xc3"} {
			list = append(list, long(size, "a", last))
		}
		if size%2 == 0 {
			list = append(list, long(size, "é", ""), long(size, "é", "\xff\xff"), long(size, "é", "😀"))
		}
	}
	// Each of these characters has three bytes.
	for _, n := range []int{21845, 21846, 32768, 43690, 43691, 65536} {
		list = append(list, strings.Repeat("€", n), strings.Repeat("€", n-1)+"a", strings.Repeat("€", n)+"a")
	}
	return list
}

// octetsThatMatter lists octets on both sides of the limits that the kinds and the forms of UTF-8 have.
func octetsThatMatter() []byte {
	return []byte{0, 1, 0x1f, 'a', '_', 0x7f, 0x80, 0x8f, 0x90, 0x9f, 0xa0, 0xbf, 0xc1, 0xc2, 0xd8, 0xdf, 0xe0, 0xed, 0xef, 0xf0, 0xf4, 0xf8, 0xff}
}

// contents calls use with content octets of all forms, most of which are not valid.
func contents(use func(b []byte)) {
	samples.Lists(samples.Octets(), 2, use)
	samples.Lists(octetsThatMatter(), 3, use)
	samples.Lists([]byte{0, 'a', 0x80, 0x9f, 0xbf, 0xd8, 0xe0, 0xed, 0xf0, 0xf4}, 4, use)
	for _, text := range texts() {
		use([]byte(text))
		for _, k := range kinds() {
			if b, e := charstrings.Put(api.CharString{Kind: k, Text: text}); e == api.OK {
				use(b)
				use(append(b, 0))
				use(append(b, 0xd8, 0))
				use(b[:max(0, len(b)-1)])
			}
		}
	}
}

// longContents calls use with content octets on both sides of every limit.
func longContents(use func(b []byte)) {
	for _, text := range longTexts() {
		use([]byte(text))
	}
	for _, size := range []int{65536, 65537, 131071, 131072, 131073, 1 << 20} {
		for _, pair := range [][]byte{{'a', 'a'}, {0, 'a'}, {0, 0}, {0, 0xe9}, {0xc3, 0xa9}, {0x20, 0xac}, {0xd8, 0}, {0xff, 0xff}} {
			b := bytes.Repeat(pair, size)[:size]
			use(b)
			b = slices.Clone(b)
			b[size-1] ^= 0x80
			use(b)
			b[size-2] = 0xd8
			use(b)
		}
	}
}

// shown returns the beginning of a text or of octets for a message.
func shown[T string | []byte](s T) T {
	return s[:min(len(s), 20)]
}

// P9.1

// checkCheck compares Check with its definition for all kinds.
func checkCheck(t *testing.T, r reference, text string) {
	t.Helper()
	for _, k := range kinds() {
		s := api.CharString{Kind: k, Text: text}
		if e, want := charstrings.Check(s), r.check(s); e != want {
			t.Errorf("Check(%d %q, %d bytes): error %d, want %d", k, shown(text), len(text), e, want)
		}
	}
}

func TestCheck(t *testing.T) {
	r := newReference()
	for _, text := range texts() {
		checkCheck(t, r, text)
	}
	check := func(b []byte) { checkCheck(t, r, string(b)) }
	samples.Lists(samples.Octets(), 2, check)
	samples.Lists(octetsThatMatter(), 3, check)
	samples.Lists([]byte{'a', 0x80, 0x8f, 0x90, 0xbf, 0xc2, 0xed, 0xf0, 0xf4}, 5, check)
}

func TestCheckOfEachCharacter(t *testing.T) {
	for k, has := range repertoires() {
		for c := range rune(0x110000) {
			if c >= 0xd800 && c <= 0xdfff {
				continue // it has no UTF-8
			}
			want := api.OK
			if !has[c] {
				want = api.ErrValue
			}
			if e := charstrings.Check(api.CharString{Kind: k, Text: string(c)}); e != want {
				t.Errorf("Check(%d %U): error %d, want %d", k, c, e, want)
			}
		}
	}
}

func TestCheckOfLongTexts(t *testing.T) {
	r := newReference()
	for _, text := range longTexts() {
		checkCheck(t, r, text)
	}
}

func TestCheckOfOtherKinds(t *testing.T) {
	for _, k := range otherKinds() {
		for _, text := range []string{"", "a", "\xff", "\x00", strings.Repeat("a", 65537)} {
			if e := charstrings.Check(api.CharString{Kind: k, Text: text}); e != api.ErrTag {
				t.Errorf("Check(%d %q, %d bytes): error %d, want ErrTag", k, shown(text), len(text), e)
			}
		}
	}
}

// TestCheckErrors has one case for each error, and for each two of which one comes first.
func TestCheckErrors(t *testing.T) {
	for _, x := range []struct {
		kind uint32
		text string
		e    api.Errno
	}{
		{0, "", api.ErrTag},
		{4, strings.Repeat("a", 65537), api.ErrTag},
		{4, "\xff", api.ErrTag},
		{4, "\x00", api.ErrTag},
		{12, strings.Repeat("a", 65537), api.ErrLimit},
		{12, strings.Repeat("\xff", 65537), api.ErrLimit},
		{12, strings.Repeat("\x00", 65537), api.ErrLimit},
		{19, strings.Repeat("_", 65537), api.ErrLimit},
		{12, "\xff", api.ErrValue},
		{30, "\xff", api.ErrValue},
		{19, "_", api.ErrValue},
	} {
		if e := charstrings.Check(api.CharString{Kind: x.kind, Text: x.text}); e != x.e {
			t.Errorf("Check(%d %q, %d bytes): error %d, want %d", x.kind, shown(x.text), len(x.text), e, x.e)
		}
	}
}

// P9.2

// checkPut compares Put and Element with the definition of the content octets for all kinds.
func checkPut(t *testing.T, r reference, text string) {
	t.Helper()
	for _, k := range kinds() {
		s := api.CharString{Kind: k, Text: text}
		wantError := r.check(s)
		var want []byte
		var wantTag api.Tag
		if wantError == api.OK {
			want, wantTag = r.put(s), api.Tag{Number: k}
		}
		b, e := charstrings.Put(s)
		if e != wantError || !bytes.Equal(b, want) || cap(b) != len(b) {
			t.Errorf("Put(%d %q, %d bytes): %x, %d octets, capacity %d, error %d, want %x, %d octets, error %d", k, shown(text), len(text), shown(b), len(b), cap(b), e, shown(want), len(want), wantError)
		}
		x, e := charstrings.Element(s)
		if e != wantError || x.Tag != wantTag || !bytes.Equal(x.Bytes, want) || cap(x.Bytes) != len(x.Bytes) || len(x.Subs) > 0 {
			t.Errorf("Element(%d %q, %d bytes): tag %v, %d octets, %d elements, error %d, want tag %v, %d octets, error %d", k, shown(text), len(text), x.Tag, len(x.Bytes), len(x.Subs), e, wantTag, len(want), wantError)
		}
	}
}

func TestPut(t *testing.T) {
	r := newReference()
	for _, text := range slices.Concat(texts(), longTexts()) {
		checkPut(t, r, text)
	}
	check := func(b []byte) { checkPut(t, r, string(b)) }
	samples.Lists(samples.Octets(), 1, check)
	samples.Lists(octetsThatMatter(), 3, check)
}

func TestEachCharacter(t *testing.T) {
	r := newReference()
	for k, has := range r.has {
		for c := range rune(0x110000) {
			if !has[c] {
				continue
			}
			s := api.CharString{Kind: k, Text: string(c)}
			want := r.put(s)
			if b, e := charstrings.Put(s); e != api.OK || !bytes.Equal(b, want) {
				t.Errorf("Put(%d %U): %x, error %d, want %x", k, c, b, e, want)
			}
			if got, e := charstrings.Get(k, want); e != api.OK || got != s {
				t.Errorf("Get(%d, %x): %v, error %d, want %U", k, want, got, e, c)
			}
		}
	}
}

func TestPutAgainstAnotherImplementation(t *testing.T) {
	parameters := map[uint32]string{12: "utf8", 19: "printable", 22: "ia5"}
	for _, text := range texts() {
		if strings.ContainsAny(text, "\x00*") {
			continue // the other implementation has the first one in all kinds, and the second one in a PrintableString
		}
		for k, parameter := range parameters {
			encoded, err := asn1.MarshalWithParams(text, parameter)
			if err == nil { // it writes any bytes as UTF-8, but does not read them
				_, err = asn1.Unmarshal(encoded, new(string))
			}
			x, e := charstrings.Element(api.CharString{Kind: k, Text: text})
			if (err == nil) != (e == api.OK) {
				t.Errorf("Element(%d %q): error %d, want %v", k, text, e, err)
			}
			if err != nil {
				continue
			}
			if b, e := elements.Put(x); e != api.OK || !bytes.Equal(b, encoded) {
				t.Errorf("Element(%d %q): %x, error %d, want %x", k, text, b, e, encoded)
			}
		}
	}
}

func TestBMPAgainstAnotherImplementation(t *testing.T) {
	for _, text := range texts() {
		units := utf16.Encode([]rune(text))
		if strings.Contains(text, "\x00") || !isText(text) || len(units) != len([]rune(text)) {
			continue
		}
		var want []byte
		for _, unit := range units {
			want = append(want, byte(unit/256), byte(unit%256))
		}
		if b, e := charstrings.Put(api.CharString{Kind: 30, Text: text}); e != api.OK || !bytes.Equal(b, want) {
			t.Errorf("Put(30 %q): %x, error %d, want %x", text, b, e, want)
		}
	}
}

// checkGet compares Get and Of with the definition of Get for all kinds.
func checkGet(t *testing.T, r reference, b []byte) {
	t.Helper()
	for _, k := range kinds() {
		want, wantError := r.get(k, b)
		if s, e := charstrings.Get(k, b); s != want || e != wantError {
			t.Errorf("Get(%d, %x, %d octets): %d %q, error %d, want %q, error %d", k, shown(b), len(b), s.Kind, shown(s.Text), e, shown(want.Text), wantError)
		}
		x := api.Element{Tag: api.Tag{Number: k}, Bytes: b, Subs: []api.Element{}}
		if s, e := charstrings.Of(x); s != want || e != wantError {
			t.Errorf("Of(%d, %x, %d octets): %d %q, error %d, want %q, error %d", k, shown(b), len(b), s.Kind, shown(s.Text), e, shown(want.Text), wantError)
		}
	}
}

func TestGet(t *testing.T) {
	r := newReference()
	contents(func(b []byte) { checkGet(t, r, b) })
}

func TestGetOfLongContents(t *testing.T) {
	r := newReference()
	longContents(func(b []byte) { checkGet(t, r, b) })
}

func TestGetOfOtherKinds(t *testing.T) {
	for _, k := range otherKinds() {
		for _, b := range [][]byte{nil, []byte("a"), {0}, {0xff}, make([]byte, 131072), make([]byte, 131073)} {
			if s, e := charstrings.Get(k, b); e != api.ErrTag || s != (api.CharString{}) {
				t.Errorf("Get(%d, %x, %d octets): %v, error %d, want ErrTag", k, shown(b), len(b), s, e)
			}
		}
	}
}

// TestGetErrors has one case for each error, and for each two of which one comes first.
func TestGetErrors(t *testing.T) {
	for _, x := range []struct {
		kind uint32
		b    []byte
		e    api.Errno
	}{
		{4, nil, api.ErrTag},
		{4, make([]byte, 131073), api.ErrTag},
		{4, []byte{0xff}, api.ErrTag},
		{4, bytes.Repeat([]byte{'a'}, 65537), api.ErrTag},
		{12, bytes.Repeat([]byte{'a'}, 131073), api.ErrLimit},
		{30, bytes.Repeat([]byte{0x20}, 131074), api.ErrLimit},
		{12, make([]byte, 131073), api.ErrLimit},
		{30, make([]byte, 131073), api.ErrLimit},
		{12, make([]byte, 131072), api.ErrValue},
		{12, append(bytes.Repeat([]byte{'a'}, 65536), 0xff), api.ErrValue},
		{19, append(bytes.Repeat([]byte{'a'}, 65536), '_'), api.ErrValue},
		{30, bytes.Repeat([]byte{0x20}, 131071), api.ErrValue},
		{30, append(bytes.Repeat([]byte{0x20}, 131070), 0xd8, 0), api.ErrValue},
		{12, []byte{0xff}, api.ErrValue},
		{19, []byte{'_'}, api.ErrValue},
		{30, []byte{0}, api.ErrValue},
		{12, bytes.Repeat([]byte{'a'}, 65537), api.ErrLimit},
		{19, bytes.Repeat([]byte{'a'}, 65537), api.ErrLimit},
		{30, bytes.Repeat([]byte{0x20}, 131072), api.ErrLimit},
		{30, bytes.Repeat([]byte{0x20}, 43692), api.ErrLimit},
		{30, bytes.Repeat([]byte{0x20}, 43690), api.OK},
		{30, bytes.Repeat([]byte{0, 'a'}, 65536), api.OK},
	} {
		s, e := charstrings.Get(x.kind, x.b)
		if e != x.e || e != api.OK && s != (api.CharString{}) {
			t.Errorf("Get(%d, %x, %d octets): %d %q, error %d, want %d", x.kind, shown(x.b), len(x.b), s.Kind, shown(s.Text), e, x.e)
		}
	}
}

// P9.3: Element is tested with Put, and Of with Get

// checkOf checks that Of returns an error, and nothing else.
func checkOf(t *testing.T, e api.Element, want api.Errno) {
	t.Helper()
	if s, err := charstrings.Of(e); err != want || s != (api.CharString{}) {
		t.Errorf("Of(tag %v, %x, %d elements): %v, error %d, want error %d", e.Tag, shown(e.Bytes), len(e.Subs), s, err, want)
	}
}

// octetsOfElements lists content octets that are valid for some kinds, and some that are valid for none.
func octetsOfElements() [][]byte {
	return [][]byte{nil, {}, {'a'}, {0, 'a'}, {0xff}, {0}, make([]byte, 131073), bytes.Repeat([]byte{'a'}, 65537)}
}

func TestOfOtherTags(t *testing.T) {
	numbers := append(kinds(), otherKinds()...)
	for _, class := range []api.Class{api.Universal, api.Application, api.Context, api.Private, 4, 255} {
		for _, constructed := range []bool{false, true} {
			for _, n := range numbers {
				if class == api.Universal && !constructed && slices.Contains(kinds(), n) {
					continue
				}
				for _, b := range octetsOfElements() {
					x := api.Element{Tag: api.Tag{Class: class, Constructed: constructed, Number: n}, Bytes: b}
					checkOf(t, x, api.ErrTag)
					x.Subs = make([]api.Element, 1)
					checkOf(t, x, api.ErrTag)
				}
			}
		}
	}
}

func TestOfSubs(t *testing.T) {
	for _, k := range kinds() {
		x := api.Element{Tag: api.Tag{Number: k}}
		for _, x.Bytes = range octetsOfElements() {
			for _, x.Subs = range [][]api.Element{{{}}, {x}, {x, x}, make([]api.Element, 8193)} {
				checkOf(t, x, api.ErrArg)
			}
		}
		x.Subs[0] = x // it contains itself
		checkOf(t, x, api.ErrArg)
	}
}

func TestElementOfOtherKinds(t *testing.T) {
	for _, k := range otherKinds() {
		for _, text := range []string{"", "a", "\xff", strings.Repeat("a", 65537)} {
			s := api.CharString{Kind: k, Text: text}
			if x, e := charstrings.Element(s); e != api.ErrTag || x.Tag != (api.Tag{}) || len(x.Bytes)+len(x.Subs) > 0 {
				t.Errorf("Element(%d %q): %v, error %d, want ErrTag", k, shown(text), x, e)
			}
			if b, e := charstrings.Put(s); e != api.ErrTag || len(b) > 0 {
				t.Errorf("Put(%d %q): %x, error %d, want ErrTag", k, shown(text), b, e)
			}
		}
	}
}

// P9.4

func TestLength(t *testing.T) {
	r := newReference()
	check := func(text string) {
		for _, k := range append(kinds(), 0, 4, 16, 31, 256+12) {
			s := api.CharString{Kind: k, Text: text}
			want := 0
			if r.check(s) == api.OK {
				want = len([]rune(text))
			}
			if n := charstrings.Length(s); n != want {
				t.Errorf("Length(%d %q, %d bytes): %d, want %d", k, shown(text), len(text), n, want)
			}
		}
	}
	for _, text := range slices.Concat(texts(), longTexts()) {
		check(text)
	}
	samples.Lists(octetsThatMatter(), 3, func(b []byte) { check(string(b)) })
}

// P9.5

// wantCompare compares two character strings after the chapter, byte by byte.
func wantCompare(a, b api.CharString) int {
	for i := range min(len(a.Text), len(b.Text)) {
		if a.Text[i] != b.Text[i] {
			return cmp.Compare(a.Text[i], b.Text[i])
		}
	}
	if len(a.Text) != len(b.Text) {
		return cmp.Compare(len(a.Text), len(b.Text))
	}
	return cmp.Compare(a.Kind, b.Kind)
}

func TestCompare(t *testing.T) {
	var list []api.CharString
	for _, text := range []string{"", "\x00", "\x00\x00", "a", "ab", "aa", "b", "~", "é", "a😀", "\uffff", "😀", "\x7f", "\x80", "\xff", "\xff\xff", "a\xff", strings.Repeat("a", 65537), strings.Repeat("a", 65537) + "b", strings.Repeat("a", 70000)} {
		for _, k := range []uint32{0, 1, 12, 19, 22, 26, 30, 31, 255, 256, 256 + 12, 1<<31 - 1, 1 << 31, 1<<32 - 1} {
			list = append(list, api.CharString{Kind: k, Text: text})
		}
	}
	for _, a := range list {
		for _, b := range list {
			if got, want := charstrings.Compare(a, b), wantCompare(a, b); got != want {
				t.Errorf("Compare(%d %q, %d %q): %d, want %d", a.Kind, shown(a.Text), b.Kind, shown(b.Text), got, want)
			}
		}
	}
}

func TestCompareOfShortTexts(t *testing.T) {
	var list []api.CharString
	samples.Lists([]byte{0, 'a', 0x80, 0xff}, 3, func(b []byte) {
		list = append(list, api.CharString{Kind: 12, Text: string(b)}, api.CharString{Kind: 30, Text: string(b)})
	})
	for _, a := range list {
		for _, b := range list {
			if got, want := charstrings.Compare(a, b), wantCompare(a, b); got != want {
				t.Errorf("Compare(%d %q, %d %q): %d, want %d", a.Kind, a.Text, b.Kind, b.Text, got, want)
			}
		}
	}
}

// P9.6

// wantConvert returns a character string of another kind and its error after the chapter.
func wantConvert(r reference, s api.CharString, kind uint32) (api.CharString, api.Errno) {
	if e := r.check(s); e != api.OK {
		return api.CharString{}, e
	}
	if r.has[kind] == nil {
		return api.CharString{}, api.ErrTag
	}
	if !r.hasAll(kind, []rune(s.Text)) {
		return api.CharString{}, api.ErrValue
	}
	return api.CharString{Kind: kind, Text: s.Text}, api.OK
}

func TestConvert(t *testing.T) {
	r := newReference()
	numbers := append(kinds(), 0, 4, 16, 31, 256+12, 1<<32-1)
	check := func(text string) {
		for _, from := range numbers {
			for _, to := range numbers {
				s := api.CharString{Kind: from, Text: text}
				want, wantError := wantConvert(r, s, to)
				if got, e := charstrings.Convert(s, to); got != want || e != wantError {
					t.Errorf("Convert(%d %q, %d): %d %q, error %d, want %d %q, error %d", from, shown(text), to, got.Kind, shown(got.Text), e, want.Kind, shown(want.Text), wantError)
				}
			}
		}
	}
	for _, text := range texts() {
		check(text)
	}
	for _, text := range []string{long(65536, "a", ""), long(65536, "é", ""), long(65536, "a", "_"), long(65537, "a", ""), long(65537, "a", "\xff")} {
		check(text)
	}
	samples.Lists(octetsThatMatter(), 2, func(b []byte) { check(string(b)) })
}

// TestConvertErrors has one case for each error, and for each two of which one comes first.
func TestConvertErrors(t *testing.T) {
	for _, x := range []struct {
		s    api.CharString
		kind uint32
		e    api.Errno
	}{
		{api.CharString{Kind: 4, Text: "a"}, 12, api.ErrTag},
		{api.CharString{Kind: 4, Text: "a"}, 4, api.ErrTag},
		{api.CharString{Kind: 4, Text: "\xff"}, 12, api.ErrTag},
		{api.CharString{Kind: 12, Text: strings.Repeat("a", 65537)}, 12, api.ErrLimit},
		{api.CharString{Kind: 12, Text: strings.Repeat("a", 65537)}, 4, api.ErrLimit},
		{api.CharString{Kind: 12, Text: strings.Repeat("_", 65537)}, 19, api.ErrLimit},
		{api.CharString{Kind: 12, Text: "\xff"}, 12, api.ErrValue},
		{api.CharString{Kind: 12, Text: "\xff"}, 4, api.ErrValue},
		{api.CharString{Kind: 19, Text: "_"}, 4, api.ErrValue},
		{api.CharString{Kind: 19, Text: "_"}, 12, api.ErrValue},
		{api.CharString{Kind: 12, Text: "é"}, 4, api.ErrTag},
		{api.CharString{Kind: 12, Text: "é"}, 0, api.ErrTag},
		{api.CharString{Kind: 12, Text: "é"}, 22, api.ErrValue},
	} {
		if got, e := charstrings.Convert(x.s, x.kind); e != x.e || got != (api.CharString{}) {
			t.Errorf("Convert(%d %q, %d): %v, error %d, want error %d", x.s.Kind, shown(x.s.Text), x.kind, got, e, x.e)
		}
	}
}

func TestKinds(t *testing.T) {
	r := newReference()
	check := func(text string) {
		var want []uint32
		for _, k := range kinds() {
			if r.check(api.CharString{Kind: k, Text: text}) == api.OK {
				want = append(want, k)
			}
		}
		got := charstrings.Kinds(text)
		if !slices.Equal(got, want) || cap(got) != len(got) {
			t.Errorf("Kinds(%q, %d bytes): %v, capacity %d, want %v", shown(text), len(text), got, cap(got), want)
		}
	}
	for _, text := range slices.Concat(texts(), longTexts()) {
		check(text)
	}
	samples.Lists(samples.Octets(), 2, func(b []byte) { check(string(b)) })
	samples.Lists(octetsThatMatter(), 3, func(b []byte) { check(string(b)) })
}

// P9.7

func TestGetInvertsPut(t *testing.T) {
	for _, text := range slices.Concat(texts(), longTexts()) {
		for _, k := range charstrings.Kinds(text) {
			s := api.CharString{Kind: k, Text: text}
			b, _ := charstrings.Put(s)
			if got, e := charstrings.Get(k, b); e != api.OK || got != s {
				t.Errorf("Get(Put(%d %q)): %d %q, error %d", k, shown(text), got.Kind, shown(got.Text), e)
			}
			x, _ := charstrings.Element(s)
			if got, e := charstrings.Of(x); e != api.OK || got != s {
				t.Errorf("Of(Element(%d %q)): %d %q, error %d", k, shown(text), got.Kind, shown(got.Text), e)
			}
		}
	}
}

func TestOnlyWhatPutReturnsIsAccepted(t *testing.T) {
	check := func(b []byte) {
		for _, k := range kinds() {
			s, e := charstrings.Get(k, b)
			if e != api.OK {
				continue
			}
			if again, err := charstrings.Put(s); err != api.OK || !bytes.Equal(again, b) {
				t.Errorf("Get(%d) accepts %x, %d octets", k, shown(b), len(b))
			}
		}
	}
	contents(check)
	longContents(check)
}

func TestConvertBackAndForth(t *testing.T) {
	for _, text := range slices.Concat(texts(), longTexts()) {
		for _, from := range charstrings.Kinds(text) {
			for _, to := range charstrings.Kinds(text) {
				s := api.CharString{Kind: from, Text: text}
				there, e := charstrings.Convert(s, to)
				back, f := charstrings.Convert(there, from)
				if e != api.OK || f != api.OK || back != s {
					t.Errorf("Convert(%d %q, %d) and back: %d %q, errors %d and %d", from, shown(text), to, back.Kind, shown(back.Text), e, f)
				}
			}
		}
	}
}

func TestEachKindHasTheCharactersOfAnother(t *testing.T) {
	check := func(text string) {
		narrower := api.ErrValue
		for _, k := range []uint32{19, 26, 22, 30, 12} {
			e := charstrings.Check(api.CharString{Kind: k, Text: text})
			if narrower == api.OK && e != api.OK {
				t.Errorf("Check(%d %q): error %d, but a kind with fewer characters has them all", k, text, e)
			}
			narrower = e
		}
	}
	for _, text := range texts() {
		check(text)
	}
	for c := range rune(0x110000) {
		check(string(c))
	}
}

func TestOrderIsThatOfCodePoints(t *testing.T) {
	var list []string
	var points [][]rune
	for _, text := range texts()[:150] {
		for _, last := range []string{"", "a", "\uffff", "\U0010ffff"} {
			if isText(text) {
				list = append(list, text+last)
				points = append(points, []rune(text+last))
			}
		}
	}
	for i, a := range list {
		for k, b := range list {
			got := charstrings.Compare(api.CharString{Kind: 12, Text: a}, api.CharString{Kind: 12, Text: b})
			if want := slices.Compare(points[i], points[k]); got != want {
				t.Errorf("Compare(%q, %q): %d, want %d", a, b, got, want)
			}
		}
	}
}

// The examples of the chapter

func TestCheckExamples(t *testing.T) {
	for s, want := range map[api.CharString]api.Errno{
		{Kind: 19, Text: "a b"}:  api.OK,
		{Kind: 19, Text: "a_b"}:  api.ErrValue,
		{Kind: 4}:                api.ErrTag,
		{Kind: 12, Text: "\xff"}: api.ErrValue,
		{Kind: 30, Text: "é"}:    api.OK,
	} {
		if e := charstrings.Check(s); e != want {
			t.Errorf("Check(%v): error %d, want %d", s, e, want)
		}
	}
}

func TestPutExamples(t *testing.T) {
	for s, want := range map[api.CharString]string{
		{Kind: 22, Text: "ab"}: "\x61\x62",
		{Kind: 30, Text: "é"}:  "\x00\xe9",
		{Kind: 12, Text: "é"}:  "\xc3\xa9",
	} {
		if b, e := charstrings.Put(s); e != api.OK || string(b) != want {
			t.Errorf("Put(%v): %x, error %d, want %x", s, b, e, want)
		}
	}
}

func TestGetExamples(t *testing.T) {
	for _, x := range []struct {
		kind uint32
		b    []byte
		want api.CharString
		e    api.Errno
	}{
		{30, []byte{0, 0xe9}, api.CharString{Kind: 30, Text: "é"}, api.OK},
		{30, []byte{0}, api.CharString{}, api.ErrValue},
		{30, []byte{0xd8, 0}, api.CharString{}, api.ErrValue},
		{22, []byte{0x80}, api.CharString{}, api.ErrValue},
		{12, []byte{0}, api.CharString{}, api.ErrValue},
	} {
		if s, e := charstrings.Get(x.kind, x.b); s != x.want || e != x.e {
			t.Errorf("Get(%d, %x): %v, error %d, want %v, error %d", x.kind, x.b, s, e, x.want, x.e)
		}
	}
}

func TestOtherExamples(t *testing.T) {
	if n := charstrings.Length(api.CharString{Kind: 12, Text: "aé"}); n != 2 {
		t.Errorf("Length: %d", n)
	}
	ia5 := api.CharString{Kind: 22, Text: "a"}
	if c := charstrings.Compare(ia5, api.CharString{Kind: 12, Text: "a"}); c != 1 {
		t.Errorf("Compare with the same text: %d", c)
	}
	if c := charstrings.Compare(ia5, api.CharString{Kind: 12, Text: "b"}); c != -1 {
		t.Errorf("Compare with another text: %d", c)
	}
	bmp := api.CharString{Kind: 30, Text: "é"}
	if s, e := charstrings.Convert(bmp, 12); e != api.OK || s != (api.CharString{Kind: 12, Text: "é"}) {
		t.Errorf("Convert to UTF8: %v, error %d", s, e)
	}
	if s, e := charstrings.Convert(bmp, 22); e != api.ErrValue || s != (api.CharString{}) {
		t.Errorf("Convert to IA5: %v, error %d", s, e)
	}
	for text, want := range map[string][]uint32{"a": {12, 19, 22, 26, 30}, "_": {12, 22, 26, 30}, "": {12, 19, 22, 26, 30}} {
		if got := charstrings.Kinds(text); !slices.Equal(got, want) {
			t.Errorf("Kinds(%q): %v, want %v", text, got, want)
		}
	}
}

// R3 and R4

func TestArgumentsAreNeitherModifiedNorKept(t *testing.T) {
	for _, text := range texts() {
		for _, k := range charstrings.Kinds(text) {
			want := api.CharString{Kind: k, Text: text}
			b, _ := charstrings.Put(want)
			argument := append(slices.Clone(b), 0xff, 0xff, 0xff)[:len(b)]
			s, _ := charstrings.Get(k, argument)
			read, _ := charstrings.Of(api.Element{Tag: api.Tag{Number: k}, Bytes: argument})
			if !bytes.Equal(argument, b) || !bytes.Equal(argument[len(b):len(b)+3], []byte{0xff, 0xff, 0xff}) {
				t.Fatalf("an argument is modified: %x, was %x", argument, b)
			}
			clear(argument)
			if s != want || read != want {
				t.Fatalf("a result for %x depends on the argument's memory", b)
			}
		}
	}
}

func TestResultsAreNewMemory(t *testing.T) {
	for _, k := range kinds() {
		s := api.CharString{Kind: k, Text: "a b"}
		first, _ := charstrings.Put(s)
		want := slices.Clone(first)
		x, _ := charstrings.Element(s)
		clear(first)
		clear(x.Bytes)
		second, _ := charstrings.Put(s)
		y, _ := charstrings.Element(s)
		if !bytes.Equal(second, want) || !bytes.Equal(y.Bytes, want) {
			t.Errorf("Put and Element of kind %d after a change of earlier results: %x and %x, want %x", k, second, y.Bytes, want)
		}
	}
	clear(charstrings.Kinds("a"))
	if list := charstrings.Kinds("a"); !slices.Equal(list, kinds()) {
		t.Errorf("Kinds after a change of an earlier result: %v", list)
	}
}

func TestNilAndEmptyAreEqual(t *testing.T) {
	for _, empty := range [][]byte{nil, {}, make([]byte, 0, 3)} {
		for _, k := range kinds() {
			want := api.CharString{Kind: k}
			if s, e := charstrings.Get(k, empty); e != api.OK || s != want {
				t.Errorf("Get(%d, none): %v, error %d", k, s, e)
			}
			if s, e := charstrings.Of(api.Element{Tag: api.Tag{Number: k}, Bytes: empty}); e != api.OK || s != want {
				t.Errorf("Of(%d, none): %v, error %d", k, s, e)
			}
		}
	}
}
