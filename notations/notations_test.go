package notations_test

import (
	"bytes"
	"encoding/asn1"
	"encoding/hex"
	"fmt"
	"math"
	"math/big"
	"math/rand"
	"regexp"
	"slices"
	"strconv"
	"strings"
	"testing"
	"time"

	"vidimus/api"
	"vidimus/elements"
	"vidimus/notations"
	"vidimus/samples"
)

// The limits of the chapter.
const (
	maxText     = 1 << 20
	maxDepth    = 16
	maxElements = 8192
	maxNumber   = 1<<28 - 1 // of a tag
	maxChars    = 65536     // of a character string whose characters are ASCII
)

// ownWords are the words of the universal tags that have one of their own.
var ownWords = map[uint32]string{
	1: "BOOLEAN", 2: "INTEGER", 3: "BITS", 4: "OCTETS", 5: "NULL", 6: "OID", 10: "ENUMERATED", 12: "UTF8",
	16: "SEQUENCE", 17: "SET", 19: "PRINTABLE", 22: "IA5", 23: "UTCTIME", 24: "TIME", 26: "VISIBLE", 30: "BMP",
}

// classNames are the names of the classes.
var classNames = []string{"universal", "application", "context", "private"}

// uni returns a universal tag of primitive elements.
func uni(number uint32) api.Tag { return api.Tag{Number: number} }

// leaf returns a primitive element with a universal tag.
func leaf(number uint32, octets ...byte) api.Element {
	return api.Element{Tag: uni(number), Bytes: octets}
}

// null returns a NULL.
func null() api.Element { return leaf(5) }

// set returns a SET.
func set(subs ...api.Element) api.Element {
	return api.Element{Tag: api.Tag{Constructed: true, Number: 17}, Subs: subs}
}

// nest returns e in n SETs.
func nest(e api.Element, n int) api.Element {
	for range n {
		e = set(e)
	}
	return e
}

// repeat returns a SET of n times e, and of what follows.
func repeat(e api.Element, n int, more ...api.Element) api.Element {
	return set(append(slices.Repeat([]api.Element{e}, n), more...)...)
}

// brief returns the beginning of a text, to be printed.
func brief(s string) string { return s[:min(len(s), 200)] }

// isTag reports whether a tag is valid.
func isTag(t api.Tag) bool {
	if t.Class == 0 && (t.Number == 0 || (t.Number == 16 || t.Number == 17) && !t.Constructed) {
		return false
	}
	return t.Class <= 3 && t.Number <= maxNumber
}

// wantWord returns the word of a tag.
func wantWord(t api.Tag) string {
	own := ownWords[t.Number]
	switch {
	case !isTag(t):
		return "?"
	case t.Class == 0 && own != "":
		return own
	}
	return fmt.Sprintf("[%s %d]", classNames[t.Class], t.Number)
}

// wantTag returns the tag, as one of primitive elements, that a word belongs to, and whether there is one.
func wantTag(word string) (api.Tag, bool) {
	for number, own := range ownWords {
		if own == word {
			return uni(number), true
		}
	}
	parts := wordForm.FindStringSubmatch(word)
	if parts == nil {
		return api.Tag{}, false
	}
	class := slices.Index(classNames, parts[1])
	number, err := strconv.ParseUint(parts[2], 10, 64)
	if class < 0 || err != nil || number > maxNumber || class == 0 && (number == 0 || ownWords[uint32(number)] != "") {
		return api.Tag{}, false
	}
	return api.Tag{Class: api.Class(class), Number: uint32(number)}, true
}

// The forms of words and values.
var (
	wordForm   = regexp.MustCompile(`^\[([a-z]+) (0|[1-9][0-9]*)\]$`)
	hexForm    = regexp.MustCompile(`^#(([0-9a-f]{2})*)$`)
	intForm    = regexp.MustCompile(`^(0|-?[1-9][0-9]*)$`)
	oidForm    = regexp.MustCompile(`^(0|[1-9][0-9]*)(\.(0|[1-9][0-9]*))*$`)
	stringForm = regexp.MustCompile(`^"([ !#-\[\]-~]*)"$`)
	printables = regexp.MustCompile(`^[A-Za-z0-9 '()+,./:=?-]*$`)
	timeForm   = regexp.MustCompile(`^[0-9]{4}-[0-9]{2}-[0-9]{2}T[0-9]{2}:[0-9]{2}:[0-9]{2}Z$`)
	utcForm    = regexp.MustCompile(`^[0-9]{12}Z$`)
	fullForm   = regexp.MustCompile(`^[0-9]{14}Z$`)
)

// intText returns the integer with content octets, if there is one of at most 8 octets.
func intText(b []byte) (string, bool) {
	var n int64
	if len(b) > 100 {
		return "", false
	}
	_, err := asn1.Unmarshal(append([]byte{2, byte(len(b))}, b...), &n)
	return fmt.Sprint(n), err == nil
}

// oidText returns the dotted form of the OID with content octets.
func oidText(b []byte) (string, bool) {
	if len(b) == 0 || b[len(b)-1] >= 0x80 {
		return "", false
	}
	var arcs []string
	for len(b) > 0 {
		last := slices.IndexFunc(b, func(octet byte) bool { return octet < 0x80 })
		value := new(big.Int)
		for _, octet := range b[:last+1] {
			value.Or(value.Lsh(value, 7), big.NewInt(int64(octet&0x7f)))
		}
		if b[0] == 0x80 || value.BitLen() > 32 || len(arcs) >= 16 {
			return "", false
		}
		if len(arcs) == 0 {
			n := value.Uint64()
			first := min(n/40, 2)
			arcs = append(arcs, fmt.Sprint(first), fmt.Sprint(n-40*first))
		} else {
			arcs = append(arcs, value.String())
		}
		b = b[last+1:]
	}
	return strings.Join(arcs, "."), true
}

// charsText returns the characters with content octets of a kind, if all of them can stand between quotation marks.
func charsText(kind uint32, b []byte) (string, bool) {
	text := string(b)
	if kind == 30 {
		var high, low []byte
		for i, octet := range b {
			if i%2 == 0 {
				high = append(high, octet)
			} else {
				low = append(low, octet)
			}
		}
		if len(high) != len(low) || bytes.Count(high, []byte{0}) != len(high) {
			return "", false
		}
		text = string(low)
	}
	text = `"` + text + `"`
	return text, isChars(kind, text)
}

// isChars reports whether a token is the value of a character string of a kind.
func isChars(kind uint32, s string) bool {
	parts := stringForm.FindStringSubmatch(s)
	return parts != nil && len(parts[1]) <= maxChars && (kind != 19 || printables.MatchString(parts[1]))
}

// timeText returns the text of the time with a content.
func timeText(number uint32, content string) (string, bool) {
	layout, form := "20060102150405Z", fullForm
	if number == 23 {
		layout, form = "060102150405Z", utcForm
	}
	if !form.MatchString(content) {
		return "", false
	}
	if number == 23 { // the standard library ends the century at another year
		century := "20"
		if content >= "5" {
			century = "19"
		}
		layout, content = "20"+layout, century+content
	}
	v, err := time.Parse(layout, content)
	if err != nil || number == 24 && v.Year() >= 1950 && v.Year() <= 2049 {
		return "", false
	}
	return v.Format("2006-01-02T15:04:05Z"), true
}

// tableValue returns the value that the table of the chapter has for a primitive element, and whether there is one.
func tableValue(t api.Tag, b []byte) (string, bool) {
	if t.Class != 0 {
		return "", false
	}
	switch t.Number {
	case 1:
		text, found := map[string]string{"\x00": "FALSE", "\xff": "TRUE"}[string(b)]
		return text, found
	case 2, 10:
		return intText(b)
	case 5:
		return "", len(b) == 0
	case 6:
		return oidText(b)
	case 12, 19, 22, 26, 30:
		return charsText(t.Number, b)
	case 23, 24:
		return timeText(t.Number, string(b))
	}
	return "", false
}

// wantValue returns the value of a valid primitive element.
func wantValue(t api.Tag, b []byte) string {
	if text, found := tableValue(t, b); found {
		return text
	}
	return "#" + hex.EncodeToString(b)
}

// wantLines returns the lines of a valid element at a depth, which counts from 0.
func wantLines(e api.Element, depth int) []string {
	indent := strings.Repeat(" ", 2*depth)
	word := indent + wantWord(e.Tag)
	switch {
	case !e.Tag.Constructed:
		return []string{strings.TrimRight(word+" "+wantValue(e.Tag, e.Bytes), " ")}
	case len(e.Subs) == 0:
		return []string{word + " {}"}
	}
	lines := []string{word + " {"}
	for _, sub := range e.Subs {
		lines = append(lines, wantLines(sub, depth+1)...)
	}
	return append(lines, indent+"}")
}

// wantNotation returns the notation of a valid element.
func wantNotation(e api.Element) string {
	return strings.Join(wantLines(e, 0), "\n") + "\n"
}

// wantOctets returns the content octets of the primitive element with a tag that a token is the value of, and whether there is one.
func wantOctets(t api.Tag, s string) ([]byte, bool) {
	if parts := hexForm.FindStringSubmatch(s); parts != nil {
		b, err := hex.DecodeString(parts[1])
		return b, err == nil
	}
	if t.Class != 0 {
		return nil, false
	}
	switch t.Number {
	case 1:
		text, found := map[string]string{"FALSE": "\x00", "TRUE": "\xff"}[s]
		return []byte(text), found
	case 2, 10:
		n, ok := new(big.Int).SetString(s, 10)
		if !ok || !intForm.MatchString(s) || !n.IsInt64() {
			return nil, false
		}
		b, err := asn1.Marshal(n)
		return b[2:], err == nil
	case 6:
		return octetsOfOID(s)
	case 12, 19, 22, 26:
		return []byte(strings.Trim(s, `"`)), isChars(t.Number, s)
	case 30:
		var b []byte
		for _, octet := range []byte(strings.Trim(s, `"`)) {
			b = append(b, 0, octet)
		}
		return b, isChars(30, s)
	case 23, 24:
		return octetsOfTime(t.Number, s)
	}
	return nil, false
}

// octetsOfOID returns the content octets of the OID with a dotted form.
func octetsOfOID(s string) ([]byte, bool) {
	if !oidForm.MatchString(s) {
		return nil, false
	}
	var arcs []int64
	for _, number := range strings.Split(s, ".") {
		n, err := strconv.ParseUint(number, 10, 32)
		if err != nil {
			return nil, false
		}
		arcs = append(arcs, int64(n))
	}
	if len(arcs) < 2 || len(arcs) > 16 || arcs[0] > 2 || arcs[0] < 2 && arcs[1] > 39 || arcs[1] > 1<<32-81 {
		return nil, false
	}
	var b []byte
	for _, id := range append([]int64{40*arcs[0] + arcs[1]}, arcs[2:]...) {
		groups := []byte{byte(id % 128)}
		for id /= 128; id > 0; id /= 128 {
			groups = append(groups, byte(id%128)|0x80)
		}
		slices.Reverse(groups)
		b = append(b, groups...)
	}
	return b, true
}

// octetsOfTime returns the content octets of the time with a text, if its element has the tag.
func octetsOfTime(number uint32, s string) ([]byte, bool) {
	v, err := time.Parse("2006-01-02T15:04:05Z", s)
	if err != nil || !timeForm.MatchString(s) {
		return nil, false
	}
	if isUTC := v.Year() >= 1950 && v.Year() <= 2049; isUTC != (number == 23) {
		return nil, false
	}
	if number == 23 {
		return []byte(v.Format("060102150405Z")), true
	}
	return []byte(v.Format("20060102150405Z")), true
}

// tokenForm matches the tokens of a string; one that is not closed goes up to the end.
var tokenForm = regexp.MustCompile(`[{}]|"[^"]*("|$)|\[[^\]]*(\]|$)|[^ \t\n{}"\[]+`)

// fault is what Parse returns for a string that it does not accept.
type fault struct {
	line, column int
	err          api.Errno
}

// at returns a fault at an offset of s.
func at(s string, offset int, err api.Errno) fault {
	lines := strings.Split(s[:offset], "\n")
	return fault{len(lines), len(lines[len(lines)-1]) + 1, err}
}

// refer reads a notation by the rules of the chapter, one token after another, with the open elements on a stack.
func refer(s string) (api.Element, fault) {
	if len(s) > maxText {
		return api.Element{}, fault{0, 0, api.ErrLimit}
	}
	places := append(tokenForm.FindAllStringIndex(s, -1), []int{len(s), len(s)})
	wrong := func(i int, err api.Errno) (api.Element, fault) { return api.Element{}, at(s, places[i][0], err) }
	open := []api.Element{{}} // the first one stands around the whole
	seen := 0
	add := func(e api.Element) { open[len(open)-1].Subs = append(open[len(open)-1].Subs, e) }
	for i := 0; ; {
		token := s[places[i][0]:places[i][1]]
		if len(open) == 1 && len(open[0].Subs) == 1 {
			if token != "" {
				return wrong(i, api.ErrForm)
			}
			return open[0].Subs[0], fault{}
		}
		if token == "}" && len(open) > 1 {
			e := open[len(open)-1]
			open = open[:len(open)-1]
			add(e)
			i++
			continue
		}
		tag, found := wantTag(token)
		switch {
		case !found:
			return wrong(i, api.ErrForm)
		case len(open) > maxDepth:
			return wrong(i, api.ErrDepth)
		case seen == maxElements:
			return wrong(i, api.ErrLimit)
		}
		seen++
		i++
		value := s[places[i][0]:places[i][1]]
		switch {
		case value == "{":
			tag.Constructed = true
			open = append(open, api.Element{Tag: tag})
			i++
		case !isTag(tag):
			return wrong(i, api.ErrForm)
		case tag == uni(5) && !strings.HasPrefix(value, "#"):
			add(api.Element{Tag: tag})
		default:
			octets, isValue := wantOctets(tag, value)
			if !isValue {
				return wrong(i, api.ErrForm)
			}
			add(api.Element{Tag: tag, Bytes: octets})
			i++
		}
	}
}

// checkParse compares Parse with the rules of the chapter.
func checkParse(t *testing.T, s string) {
	t.Helper()
	want, f := refer(s)
	e, line, column, err := notations.Parse(s)
	if err != f.err || line != f.line || column != f.column || !samples.Equal(e, want) {
		t.Fatalf("Parse(%q): %v, error %d at %d, %d; want %v, %d at %d, %d", brief(s), e, err, line, column, want, f.err, f.line, f.column)
	}
}

// checkFault checks that Parse returns a fault, and nothing else.
func checkFault(t *testing.T, s string, f fault) {
	t.Helper()
	e, line, column, err := notations.Parse(s)
	if err != f.err || line != f.line || column != f.column || !samples.IsZero(e) {
		t.Errorf("Parse(%q): %v, error %d at %d, %d; want %d at %d, %d", brief(s), e.Tag, err, line, column, f.err, f.line, f.column)
	}
}

// checkElement checks that Parse returns an element, and nothing else.
func checkElement(t *testing.T, s string, want api.Element) {
	t.Helper()
	e, line, column, err := notations.Parse(s)
	if err != api.OK || line != 0 || column != 0 || !samples.Equal(e, want) {
		t.Errorf("Parse(%q): %v, error %d at %d, %d; want %v", brief(s), e, err, line, column, want)
	}
}

// checkPrint checks that Print returns a notation, and that Parse inverts it.
func checkPrint(t *testing.T, e api.Element, want string) {
	t.Helper()
	s, err := notations.Print(e)
	if err != api.OK || s != want {
		t.Fatalf("Print(%v): %q, error %d, want %q", e.Tag, brief(s), err, brief(want))
	}
	back, line, column, err := notations.Parse(s)
	if err != api.OK || line != 0 || column != 0 || !samples.Equal(back, e) {
		t.Fatalf("Parse(%q): %v, error %d at %d, %d", brief(s), back, err, line, column)
	}
}

// P11.1

// someTags calls use with tags of all classes, valid ones and others, which may be constructed.
func someTags(use func(t api.Tag)) {
	numbers := []uint32{100, 127, 128, 255, 256, 271, 272, 1 << 16, 1<<16 + 5, maxNumber - 1, maxNumber, maxNumber + 1, math.MaxUint32}
	for number := range uint32(40) {
		numbers = append(numbers, number)
	}
	for class := range 256 {
		for _, number := range numbers {
			use(api.Tag{Class: api.Class(class), Number: number})
			use(api.Tag{Class: api.Class(class), Number: number, Constructed: true})
		}
	}
}

func TestWord(t *testing.T) {
	someTags(func(tag api.Tag) {
		if got, want := notations.Word(tag), wantWord(tag); got != want {
			t.Errorf("Word(%v): %q, want %q", tag, got, want)
		}
	})
}

func TestWordsOfTheirOwn(t *testing.T) {
	for number, word := range ownWords {
		constructed := api.Tag{Constructed: true, Number: number}
		if got := notations.Word(constructed); got != word {
			t.Errorf("Word(universal %d constructed): %q, want %q", number, got, word)
		}
		want := word
		if number == 16 || number == 17 {
			want = "?"
		}
		if got := notations.Word(uni(number)); got != want {
			t.Errorf("Word(universal %d): %q, want %q", number, got, want)
		}
	}
}

// checkValue compares Value with the table of the chapter, and Parse with Value.
func checkValue(t *testing.T, tag api.Tag, octets []byte) {
	t.Helper()
	e := api.Element{Tag: tag, Bytes: octets}
	want := wantValue(tag, octets)
	if got := notations.Value(e); got != want {
		t.Fatalf("Value(%v %x): %q, want %q", tag, octets, got, want)
	}
	for _, s := range []string{want, "#" + hex.EncodeToString(octets)} {
		back, _, _, err := notations.Parse(wantWord(tag) + " " + s)
		if err != api.OK || !samples.Equal(back, e) {
			t.Fatalf("Parse(%s %s): %v, error %d", wantWord(tag), s, back, err)
		}
	}
}

// primitives lists the tags of primitive elements that have values of different kinds.
func primitives() []api.Tag {
	list := []api.Tag{uni(7), uni(1000), {Class: 1, Number: 1}, {Class: 2}, {Class: 2, Number: 2}, {Class: 3, Number: 22}}
	for number := range ownWords {
		if isTag(uni(number)) {
			list = append(list, uni(number))
		}
	}
	slices.SortFunc(list, func(a, b api.Tag) int {
		return 1000000*(int(a.Class)-int(b.Class)) + int(a.Number) - int(b.Number)
	})
	return list
}

func TestValueOfAllShortContents(t *testing.T) {
	for _, tag := range primitives() {
		samples.Lists(samples.Octets(), 1, func(b []byte) { checkValue(t, tag, b) })
	}
	for _, number := range []uint32{1, 2, 6, 12, 19, 30} {
		samples.Lists(samples.Octets(), 2, func(b []byte) { checkValue(t, uni(number), b) })
	}
}

func TestValueOfAllTags(t *testing.T) {
	someTags(func(tag api.Tag) {
		for _, octets := range [][]byte{nil, {0}, {255}, {'a'}, {0, 'a'}, []byte("991231235959Z"), []byte("20991231235959Z"), {1, 2, 3, 4, 5, 6, 7, 8, 9}} {
			if tag.Constructed || !isTag(tag) {
				if got := notations.Value(api.Element{Tag: tag, Bytes: octets}); got != "?" {
					t.Errorf("Value(%v %x): %q, want ?", tag, octets, got)
				}
				continue
			}
			checkValue(t, tag, octets)
		}
	})
}

func TestValueOfIntegers(t *testing.T) {
	samples.Lists([]byte{0, 0x7f, 0x80}, 9, func(b []byte) { checkValue(t, uni(2), b) })
	samples.Lists([]byte{1, 0x80, 0xff}, 9, func(b []byte) { checkValue(t, uni(10), b) })
	for _, number := range []uint32{2, 10} {
		random := rand.New(rand.NewSource(1))
		for range 20000 {
			b := make([]byte, 1+random.Intn(10))
			random.Read(b)
			checkValue(t, uni(number), b)
		}
	}
}

func TestValueOfOIDs(t *testing.T) {
	samples.Lists([]byte{0, 1, 0x0f, 0x10, 0x27, 0x28, 0x4f, 0x50, 0x7f, 0x80, 0x81, 0x8f, 0x90, 0xff}, 4, func(b []byte) { checkValue(t, uni(6), b) })
	samples.Lists([]byte{0, 0x7f, 0x80, 0x8f, 0x90, 0xff}, 6, func(b []byte) { checkValue(t, uni(6), b) })
	for n := range 20 {
		checkValue(t, uni(6), bytes.Repeat([]byte{1}, n))
		checkValue(t, uni(6), bytes.Repeat([]byte{0x8f, 0xff, 0xff, 0xff, 0x7f}, n))
	}
}

func TestValueOfCharacterStrings(t *testing.T) {
	for _, number := range []uint32{12, 19, 22, 26, 30} {
		samples.Lists([]byte{0, 0x1f, ' ', '!', '"', '#', 'Z', '[', '\\', ']', '~', 0x7f, 0xc3, 0xa9}, 3, func(b []byte) { checkValue(t, uni(number), b) })
		samples.Lists([]byte{0, 'a', '*', 0xc2, 0xa0}, 5, func(b []byte) { checkValue(t, uni(number), b) })
		for octet := range 256 {
			checkValue(t, uni(number), []byte{'a', byte(octet), 'b'})
			checkValue(t, uni(number), []byte{0, 'a', 0, byte(octet), 0, 'b'})
		}
		for _, n := range []int{255, 256, 65535, 65536, 65537, 131072, 131073, 1 << 18} {
			checkValue(t, uni(number), bytes.Repeat([]byte{'a'}, n))
			checkValue(t, uni(number), bytes.Repeat([]byte{0, 'a'}, n/2))
		}
	}
}

// someTimes lists contents of UTCTimes and GeneralizedTimes, most of which are valid below one of the two tags.
func someTimes() []string {
	return []string{
		"991231235959Z", "000101000000Z", "000229123456Z", "500101000000Z", "491231235959Z", "990229000000Z", "991301000000Z", "991231240000Z", "991231235960Z",
		"20500101000000Z", "19491231235959Z", "00000101000000Z", "99991231235959Z", "19500101000000Z", "20491231235959Z", "20000229000000Z", "21000229000000Z", "20961231235960Z",
	}
}

func TestValueOfTimes(t *testing.T) {
	for _, number := range []uint32{23, 24, 12, 22, 26} {
		for _, s := range someTimes() {
			checkValue(t, uni(number), []byte(s))
			for i := range s {
				checkValue(t, uni(number), []byte(s[:i]))
				checkValue(t, uni(number), []byte(s[i:]))
				for _, octet := range []byte{'0', '1', '3', '6', '9', 'Z', ' ', '-', '.', 0, 0xff, s[i] + 1, s[i] - 1} {
					changed := []byte(s)
					changed[i] = octet
					checkValue(t, uni(number), changed)
				}
			}
		}
	}
}

func TestValueOfOtherElements(t *testing.T) {
	for i, e := range []api.Element{
		{}, {Bytes: []byte{1}}, {Tag: uni(16)}, {Tag: uni(17), Bytes: []byte{1}}, {Tag: api.Tag{Class: 4}}, {Tag: api.Tag{Class: 2, Number: maxNumber + 1}},
		set(), set(null()), {Tag: api.Tag{Constructed: true, Number: 5}}, {Tag: api.Tag{Constructed: true, Number: 2}, Bytes: []byte{7}}, {Tag: api.Tag{Class: 2, Constructed: true}},
		{Tag: uni(5), Subs: []api.Element{null()}}, {Tag: uni(2), Bytes: []byte{7}, Subs: []api.Element{null()}}, {Tag: uni(4), Subs: make([]api.Element, 1)},
	} {
		if got := notations.Value(e); got != "?" {
			t.Errorf("Value(%d): %q, want ?", i, got)
		}
	}
	if got := notations.Value(api.Element{Tag: uni(2), Bytes: []byte{7}, Subs: []api.Element{}}); got != "7" {
		t.Errorf("Value of an INTEGER with empty Subs: %q, want 7", got)
	}
	for i, e := range cyclic() {
		if got := notations.Value(e); got != "?" {
			t.Errorf("Value of the element %d that contains itself: %q, want ?", i, got)
		}
	}
}

func TestValueIsNeverTruncated(t *testing.T) {
	for _, n := range []int{maxText/2 - 1, maxText / 2, maxText - 1, maxText, maxText + 1, 1 << 22} {
		for _, number := range []uint32{2, 4, 12} {
			want := "#" + strings.Repeat("61", n)
			if got := notations.Value(leaf(number, bytes.Repeat([]byte{'a'}, n)...)); got != want {
				t.Errorf("Value of %d octets: %d characters, want %d", n, len(got), len(want))
			}
		}
	}
}

// P11.2

// cyclic returns elements that contain themselves.
func cyclic() []api.Element {
	one := make([]api.Element, 1)
	one[0] = set(one...)
	two := []api.Element{null(), null()}
	two[1] = set(two...)
	prim := make([]api.Element, 1)
	prim[0] = api.Element{Tag: uni(4), Subs: prim}
	return []api.Element{one[0], two[1], prim[0], set(null(), one[0])}
}

// random makes random elements.
type random struct{ *rand.Rand }

// pick returns a random element of a list.
func pick[T any](r random, list []T) T { return list[r.Intn(len(list))] }

// leaf returns a random primitive element, whose content is one of its type in most cases.
func (r random) leaf() api.Element {
	tag := pick(r, primitives())
	octets := make([]byte, r.Intn(9))
	r.Read(octets)
	switch tag.Number {
	case 1:
		octets = pick(r, [][]byte{{0}, {255}, {1}})
	case 6:
		octets = pick(r, [][]byte{{0x55, 0x1d, 0x20, 0}, {0x2a, 3}, {0x88, 0x37}, {0x88}})
	case 12, 19, 22, 26:
		octets = []byte(pick(r, []string{"", "a", "{", "}", "NULL", " a  b ", "#07", "[x]", "é", "\\", "\n", "a-b"}))
	case 23, 24:
		octets = []byte(pick(r, someTimes()))
	case 30:
		octets = []byte(pick(r, []string{"", "\x00a", "\x00{\x00 ", "\x01a", "\x00\""}))
	}
	if r.Intn(8) == 0 {
		octets = octets[:r.Intn(len(octets)+1)]
	}
	return api.Element{Tag: tag, Bytes: octets}
}

// element returns a random element with at most so many levels.
func (r random) element(levels int) api.Element {
	if levels == 1 || r.Intn(5) < 2 {
		return r.leaf()
	}
	e := api.Element{Tag: pick(r, append(primitives(), uni(16), uni(17), uni(16), uni(17)))}
	e.Tag.Constructed = true
	for range r.Intn(5) {
		e.Subs = append(e.Subs, r.element(levels-1))
	}
	return e
}

func TestPrint(t *testing.T) {
	for _, x := range []struct {
		e    api.Element
		want string
	}{
		{null(), "NULL\n"},
		{leaf(5, 0), "NULL #00\n"},
		{leaf(2, 7), "INTEGER 7\n"},
		{leaf(4), "OCTETS #\n"},
		{leaf(12), "UTF8 \"\"\n"},
		{leaf(12, ' '), "UTF8 \" \"\n"},
		{leaf(7), "[universal 7] #\n"},
		{set(), "SET {}\n"},
		{set(null()), "SET {\n  NULL\n}\n"},
		{set(set()), "SET {\n  SET {}\n}\n"},
		{set(set(null(), leaf(1, 0)), null()), "SET {\n  SET {\n    NULL\n    BOOLEAN FALSE\n  }\n  NULL\n}\n"},
		{api.Element{Tag: api.Tag{Constructed: true, Number: 5}}, "NULL {}\n"},
		{api.Element{Tag: api.Tag{Constructed: true, Number: 2}, Subs: []api.Element{leaf(2, 7)}}, "INTEGER {\n  INTEGER 7\n}\n"},
		{api.Element{Tag: api.Tag{Class: 2, Constructed: true, Number: 3}, Subs: []api.Element{{Tag: api.Tag{Class: 1}}}}, "[context 3] {\n  [application 0] #\n}\n"},
		{api.Element{Tag: uni(4), Bytes: []byte{}, Subs: []api.Element{}}, "OCTETS #\n"},
		{api.Element{Tag: api.Tag{Constructed: true, Number: 17}, Bytes: []byte{}, Subs: []api.Element{}}, "SET {}\n"},
	} {
		checkPrint(t, x.e, x.want)
	}
}

func TestPrintOfManyElements(t *testing.T) {
	r := random{rand.New(rand.NewSource(1))}
	for i := range 3000 {
		e := r.element(1 + i%16)
		checkPrint(t, e, wantNotation(e))
	}
	for n := range maxDepth {
		for _, e := range []api.Element{null(), leaf(2, 7), leaf(4)} {
			checkPrint(t, nest(e, n), wantNotation(nest(e, n)))
		}
	}
	checkPrint(t, nest(set(), 15), wantNotation(nest(set(), 15)))
	checkPrint(t, repeat(null(), 8191), wantNotation(repeat(null(), 8191)))
	checkPrint(t, repeat(repeat(null(), 15), 511), wantNotation(repeat(repeat(null(), 15), 511)))
}

// alien is an element whose tag is not valid: ErrArg.
func alien() api.Element { return api.Element{Tag: api.Tag{Class: 4}} }

// invalid lists elements that are not valid, with the error of elements.Check.
func invalid() []api.Element {
	mixed := api.Element{Tag: api.Tag{Constructed: true, Number: 17}, Bytes: []byte{1}}
	return append(cyclic(),
		api.Element{}, alien(), mixed, leaf(16), leaf(17, 5, 0), leaf(0), api.Element{Tag: uni(maxNumber + 1)},
		api.Element{Tag: uni(4), Subs: []api.Element{null()}},
		nest(null(), 16), nest(set(), 16), repeat(null(), 8192), repeat(null(), 8191, null()), repeat(repeat(null(), 15), 512),
		set(null(), alien()), set(alien(), api.Element{}), set(api.Element{}, alien()), set(mixed, api.Element{}), nest(alien(), 16), nest(api.Element{}, 20),
		repeat(null(), 8192, alien()), set(nest(null(), 16), alien()), repeat(set(null()), 5000, nest(null(), 16)), repeat(null(), 8175, nest(null(), 16)),
	)
}

func TestPrintOfInvalidElements(t *testing.T) {
	for i, e := range invalid() {
		want := elements.Check(e)
		if want == api.OK {
			t.Errorf("%d is valid", i)
		}
		if s, err := notations.Print(e); s != "" || err != want {
			t.Errorf("Print(%d): %q, error %d, want %d", i, brief(s), err, want)
		}
	}
}

func TestPrintErrors(t *testing.T) {
	for _, x := range []struct {
		name string
		e    api.Element
		err  api.Errno
	}{
		{"an excluded tag", api.Element{}, api.ErrTag},
		{"a primitive SEQUENCE", leaf(16), api.ErrTag},
		{"a class that is too large", alien(), api.ErrArg},
		{"primitive with Subs", api.Element{Tag: uni(4), Subs: []api.Element{null()}}, api.ErrArg},
		{"17 levels", nest(null(), 16), api.ErrDepth},
		{"8193 elements", repeat(null(), 8192), api.ErrLimit},
		{"an error behind what is too long", set(leaf(4, make([]byte, maxText)...), alien()), api.ErrArg},
		{"an error behind what is too long, another one", set(leaf(4, make([]byte, maxText)...), nest(null(), 16)), api.ErrDepth},
	} {
		if s, err := notations.Print(x.e); s != "" || err != x.err {
			t.Errorf("%s: %q, error %d, want %d", x.name, brief(s), err, x.err)
		}
	}
}

func TestPrintLimit(t *testing.T) {
	found := false
	for _, x := range []struct {
		name   string
		around func(e api.Element) api.Element
	}{
		{"alone", func(e api.Element) api.Element { return e }},
		{"in a SET", func(e api.Element) api.Element { return set(e) }},
		{"in two", func(e api.Element) api.Element { return nest(e, 2) }},
		{"in fifteen", func(e api.Element) api.Element { return nest(e, 15) }},
		{"before others", func(e api.Element) api.Element { return set(e, null(), set(null(), set())) }},
		{"behind others", func(e api.Element) api.Element { return set(set(set(null())), set(), null(), e) }},
		{"between others", func(e api.Element) api.Element { return set(null(), nest(e, 3), leaf(2, 7)) }},
	} {
		for _, tag := range []api.Tag{uni(4), {Class: 2}} { // the lines of one have an odd number of bytes, those of the other an even one
			digits := maxText - len(wantNotation(x.around(api.Element{Tag: tag})))
			for octets := digits/2 - 3; octets <= digits/2+3; octets++ {
				e := x.around(api.Element{Tag: tag, Bytes: make([]byte, octets)})
				want := wantNotation(e)
				s, err := notations.Print(e)
				if len(want) <= maxText && (err != api.OK || s != want) {
					t.Errorf("%s, %d bytes: %d bytes, error %d", x.name, len(want), len(s), err)
				}
				if len(want) > maxText && (err != api.ErrLimit || s != "") {
					t.Errorf("%s, %d bytes: %d bytes, error %d, want ErrLimit", x.name, len(want), len(s), err)
				}
				if len(want) == maxText {
					checkElement(t, want, e)
					found = true
				}
			}
		}
	}
	if !found {
		t.Error("no notation has as many bytes as are allowed")
	}
}

func TestPrintOfLargeElements(t *testing.T) {
	text := leaf(12, bytes.Repeat([]byte{'a'}, maxChars)...)
	wide := leaf(30, bytes.Repeat([]byte{0, 'a'}, maxChars)...)
	for i, e := range []api.Element{
		leaf(4, make([]byte, maxText)...), leaf(2, make([]byte, maxText+1)...), leaf(12, make([]byte, 1<<28)...), repeat(leaf(4, make([]byte, 1<<26)...), 8191),
		set(null(), set(leaf(4, make([]byte, 1<<28)...)), null()), repeat(text, 16), repeat(wide, 16), repeat(wide, 8191), nest(repeat(text, 8000), 14),
	} {
		if s, err := notations.Print(e); err != api.ErrLimit || s != "" {
			t.Errorf("Print(%d): %d bytes, error %d, want ErrLimit", i, len(s), err)
		}
	}
	// There are more octets than bytes of the notation.
	checkPrint(t, repeat(wide, 15), wantNotation(repeat(wide, 15)))
}

func TestPrintOfSharedElements(t *testing.T) {
	// With two equal Subs at each level there are 2^k - 1 elements of little memory.
	e := null()
	for k := 1; k <= 40; k++ {
		if err := elements.Check(e); err == api.OK {
			checkPrint(t, e, wantNotation(e))
		} else if s, got := notations.Print(e); got != err || s != "" {
			t.Errorf("%d levels: error %d, want %d", k, got, err)
		}
		e = set(e, e)
	}
}

// P11.3

func TestParseValues(t *testing.T) {
	for _, x := range []struct {
		s string
		e api.Element
	}{
		{"BOOLEAN TRUE", leaf(1, 0xff)}, {"BOOLEAN FALSE", leaf(1, 0)}, {"BOOLEAN #ff", leaf(1, 0xff)}, {"BOOLEAN #", leaf(1)}, {"BOOLEAN #01", leaf(1, 1)},
		{"INTEGER 0", leaf(2, 0)}, {"INTEGER -1", leaf(2, 0xff)}, {"INTEGER 128", leaf(2, 0, 0x80)}, {"INTEGER #0007", leaf(2, 0, 7)}, {"INTEGER #", leaf(2)},
		{"INTEGER 9223372036854775807", leaf(2, 0x7f, 0xff, 0xff, 0xff, 0xff, 0xff, 0xff, 0xff)}, {"INTEGER -9223372036854775808", leaf(2, 0x80, 0, 0, 0, 0, 0, 0, 0)},
		{"INTEGER #008000000000000000", leaf(2, 0, 0x80, 0, 0, 0, 0, 0, 0, 0)},
		{"ENUMERATED 5", leaf(10, 5)}, {"ENUMERATED #05", leaf(10, 5)}, {"BITS #0001", leaf(3, 0, 1)}, {"OCTETS #0123456789abcdef", leaf(4, 1, 0x23, 0x45, 0x67, 0x89, 0xab, 0xcd, 0xef)},
		{"NULL", null()}, {"NULL #", null()}, {"NULL #00", leaf(5, 0)}, {"NULL{}", api.Element{Tag: api.Tag{Constructed: true, Number: 5}}},
		{"OID 2.5.29.32.0", leaf(6, 0x55, 0x1d, 0x20, 0)}, {"OID #", leaf(6)}, {"OID #80", leaf(6, 0x80)}, {"OID 0.0", leaf(6, 0)},
		{`UTF8 "a"`, leaf(12, 'a')}, {`UTF8 ""`, leaf(12)}, {`UTF8 "#00"`, leaf(12, '#', '0', '0')}, {`UTF8 "{ }"`, leaf(12, '{', ' ', '}')},
		{`UTF8 "[x"`, leaf(12, '[', 'x')}, {"UTF8 #c3a9", leaf(12, 0xc3, 0xa9)}, {"UTF8 #22", leaf(12, '"')},
		{`PRINTABLE "a?"`, leaf(19, 'a', '?')}, {"PRINTABLE #2a", leaf(19, '*')}, {`IA5 "~"`, leaf(22, '~')}, {`VISIBLE " "`, leaf(26, ' ')},
		{`BMP "ab"`, leaf(30, 0, 'a', 0, 'b')}, {`BMP ""`, leaf(30)}, {"BMP #00", leaf(30, 0)},
		{"UTCTIME 1950-01-01T00:00:00Z", leaf(23, []byte("500101000000Z")...)}, {"UTCTIME 2049-12-31T23:59:59Z", leaf(23, []byte("491231235959Z")...)}, {"UTCTIME #", leaf(23)},
		{"TIME 2050-01-01T00:00:00Z", leaf(24, []byte("20500101000000Z")...)}, {"TIME 0000-01-01T00:00:00Z", leaf(24, []byte("00000101000000Z")...)}, {"TIME #5a", leaf(24, 'Z')},
		{"[universal 7] #", leaf(7)}, {"[universal 268435455] #00", leaf(maxNumber, 0)},
		{"[private 268435455] #", api.Element{Tag: api.Tag{Class: 3, Number: maxNumber}}},
		{"[context 0] {}", api.Element{Tag: api.Tag{Class: 2, Constructed: true}}},
		{"[application 16] #07", api.Element{Tag: api.Tag{Class: 1, Number: 16}, Bytes: []byte{7}}},
		{"[context 17] #", api.Element{Tag: api.Tag{Class: 2, Number: 17}}}, {"[context 2] #", api.Element{Tag: api.Tag{Class: 2, Number: 2}}},
		{"SEQUENCE {}", api.Element{Tag: api.Tag{Constructed: true, Number: 16}}}, {"INTEGER {}", api.Element{Tag: api.Tag{Constructed: true, Number: 2}}},
	} {
		checkElement(t, x.s, x.e)
	}
}

func TestParseTokens(t *testing.T) {
	a := leaf(12, 'a')
	for s, e := range map[string]api.Element{
		"SET{NULL}": set(null()), " SET { NULL } ": set(null()), "\tSET\t{\tNULL\t}\t": set(null()), "\nSET\n{\nNULL\n}\n": set(null()), " \t\n SET \t\n {NULL} \t\n ": set(null()),
		`SET{UTF8"a"NULL}`: set(a, null()), `SET{UTF8"a"UTF8"a"}`: set(a, a), `UTF8"a"`: a, "UTF8\n\t \"a\"": a, `SET{UTF8"a"SET{}}`: set(a, set()), `SET{UTF8"a"[context 0]#}`: set(a, api.Element{Tag: api.Tag{Class: 2}}),
		"[context 0]#07": {Tag: api.Tag{Class: 2}, Bytes: []byte{7}}, "[context 0]{NULL}": {Tag: api.Tag{Class: 2, Constructed: true}, Subs: []api.Element{null()}}, "SET{[context 0]{}[context 0]#}": set(api.Element{Tag: api.Tag{Class: 2, Constructed: true}}, api.Element{Tag: api.Tag{Class: 2}}),
		"SET{NULL[context 0]#}": set(null(), api.Element{Tag: api.Tag{Class: 2}}), "SET{NULL #[context 0]#}": set(null(), api.Element{Tag: api.Tag{Class: 2}}), "SET{INTEGER 7[context 0]#}": set(leaf(2, 7), api.Element{Tag: api.Tag{Class: 2}}),
		"SET{NULL NULL NULL}": set(null(), null(), null()), "SET{NULL # NULL #00 NULL}": set(null(), leaf(5, 0), null()), "SET{INTEGER 7 INTEGER 7}": set(leaf(2, 7), leaf(2, 7)),
		"SET{NULL{}NULL{NULL}NULL}": set(api.Element{Tag: api.Tag{Constructed: true, Number: 5}}, api.Element{Tag: api.Tag{Constructed: true, Number: 5}, Subs: []api.Element{null()}}, null()),
		"SET{SET{}SET{SET{}}}":      set(set(), set(set())),
	} {
		checkElement(t, s, e)
	}
}

func TestParseErrors(t *testing.T) {
	for _, x := range []struct {
		s            string
		line, column int
	}{
		// Where the word must come.
		{"", 1, 1}, {" ", 1, 2}, {"\n", 2, 1}, {"\t\t", 1, 3}, {" \n \n  ", 3, 3}, {"?", 1, 1}, {"x", 1, 1}, {"{", 1, 1}, {"}", 1, 1}, {"]", 1, 1}, {"#", 1, 1},
		{`"`, 1, 1}, {`"NULL"`, 1, 1}, {"[", 1, 1}, {"[]", 1, 1}, {"null", 1, 1}, {"Null", 1, 1}, {"NUL", 1, 1}, {"NULLNULL", 1, 1}, {"NULL#", 1, 1},
		{"OCTETS#00", 1, 1}, {"NULL]", 1, 1}, {"\rNULL", 1, 1}, {"\vNULL", 1, 1}, {"\x00NULL", 1, 1}, {"\u00a0NULL", 1, 1}, {"\ufeffNULL", 1, 1},
		{"NULL\r\n", 1, 1}, {"7", 1, 1}, {"TRUE", 1, 1}, {"UNIVERSAL 5", 1, 1}, {"context 0", 1, 1}, {"universal 7", 1, 1},
		{"[universal 0] #", 1, 1}, {"[universal 1] #", 1, 1}, {"[universal 5]", 1, 1}, {"[universal 16] {}", 1, 1}, {"[universal 17] {}", 1, 1},
		{"[universal 30] #", 1, 1}, {"[universal 16 constructed] {}", 1, 1}, {"[context 0 constructed] {}", 1, 1}, {"[context 0 primitive] #", 1, 1},
		{"[context 00] #", 1, 1}, {"[context -1] #", 1, 1}, {"[context +1] #", 1, 1}, {"[context 268435456] #", 1, 1}, {"[context 4294967296] #", 1, 1},
		{"[context 18446744073709551616] #", 1, 1}, {"[Context 0] #", 1, 1}, {"[context  0] #", 1, 1}, {"[context\t0] #", 1, 1}, {"[context\n0] #", 1, 1},
		{"[ context 0] #", 1, 1}, {"[context 0 ] #", 1, 1}, {"[context 0", 1, 1}, {"[[context 0]] #", 1, 1}, {"[context] #", 1, 1}, {"[0] #", 1, 1},
		{"[class 0] #", 1, 1}, {"[NULL]", 1, 1}, {"[INTEGER] 7", 1, 1},
		// After the word.
		{"INTEGER", 1, 8}, {"INTEGER ", 1, 9}, {"INTEGER\n", 2, 1}, {"INTEGER\n\n 07", 3, 2}, {"INTEGER }", 1, 9}, {"INTEGER NULL", 1, 9}, {"INTEGER 07", 1, 9},
		{"INTEGER 00", 1, 9}, {"INTEGER -0", 1, 9}, {"INTEGER +7", 1, 9}, {"INTEGER -07", 1, 9}, {"INTEGER 7.0", 1, 9}, {"INTEGER 1_000", 1, 9},
		{"INTEGER 0x7", 1, 9}, {"INTEGER 1e3", 1, 9}, {"INTEGER -", 1, 9}, {"INTEGER - 7", 1, 9}, {"INTEGER 7x", 1, 9}, {`INTEGER "7"`, 1, 9},
		{`INTEGER""`, 1, 8}, {"INTEGER 9223372036854775808", 1, 9}, {"INTEGER -9223372036854775809", 1, 9}, {"INTEGER 18446744073709551623", 1, 9},
		{"INTEGER ７", 1, 9}, {"INTEGER ?", 1, 9}, {"ENUMERATED 05", 1, 12}, {"ENUMERATED", 1, 11},
		{"BOOLEAN", 1, 8}, {"BOOLEAN 1", 1, 9}, {"BOOLEAN true", 1, 9}, {"BOOLEAN T", 1, 9}, {"BOOLEAN \"TRUE\"", 1, 9}, {"BOOLEAN FALSETRUE", 1, 9},
		{"BOOLEAN 00", 1, 9}, {"OCTETS", 1, 7}, {"OCTETS 00", 1, 8}, {"OCTETS #0", 1, 8}, {"OCTETS #000", 1, 8}, {"OCTETS #0A", 1, 8}, {"OCTETS #A0", 1, 8},
		{"OCTETS #0g", 1, 8}, {"OCTETS #g0", 1, 8}, {"OCTETS ##", 1, 8}, {"OCTETS #0/", 1, 8}, {"OCTETS #0:", 1, 8}, {"OCTETS #0`", 1, 8},
		{"OCTETS #0x07", 1, 8}, {"OCTETS #\"\"", 1, 9}, {"OCTETS \"\"", 1, 8}, {"OCTETS # 00", 1, 10}, {"OCTETS #é", 1, 8}, {"OCTETS ?", 1, 8},
		{"BITS #1", 1, 6}, {"[context 0]", 1, 12}, {"[context 0] 7", 1, 13}, {"[context 2] 7", 1, 13}, {"[private 5]", 1, 12}, {"[context 5] NULL", 1, 13},
		{`[context 12] "a"`, 1, 14}, {"[context 1] TRUE", 1, 13}, {"[context 6] 2.5", 1, 13}, {"[universal 7] 7", 1, 15}, {"[universal 7]", 1, 14},
		{"OID", 1, 4}, {"OID 1", 1, 5}, {"OID 1.40", 1, 5}, {"OID 3.1", 1, 5}, {"OID 1.2.", 1, 5}, {"OID .1.2", 1, 5}, {"OID 1..2", 1, 5}, {"OID 1.02", 1, 5},
		{"OID 1.2.4294967296", 1, 5}, {"OID 2.4294967216", 1, 5}, {"OID 1.2.3.4.5.6.7.8.9.10.11.12.13.14.15.16.17", 1, 5}, {"OID \"1.2\"", 1, 5},
		{"OID ?", 1, 5}, {"OID 1.2 .3", 1, 9},
		{"UTF8", 1, 5}, {"UTF8 a", 1, 6}, {`UTF8 "a`, 1, 6}, {`UTF8 "`, 1, 6}, {`UTF8 a"`, 1, 6}, {`UTF8 "\"`, 1, 6}, {`UTF8 "a""b"`, 1, 9}, {`UTF8 "a"b`, 1, 9},
		{"UTF8 \"é\"", 1, 6}, {"UTF8 \"a\tb\"", 1, 6}, {"UTF8 \"a\nb\"", 1, 6}, {"UTF8 \"\x7f\"", 1, 6}, {"UTF8 \"\x1f\"", 1, 6}, {"UTF8 \"\xff\"", 1, 6},
		{"UTF8 \"\x00\"", 1, 6}, {"UTF8 'a'", 1, 6}, {"UTF8 ?", 1, 6}, {`PRINTABLE "*"`, 1, 11}, {`PRINTABLE "a_b"`, 1, 11}, {`IA5 "é"`, 1, 5},
		{`VISIBLE "é"`, 1, 9}, {`BMP "é"`, 1, 5},
		{"TIME", 1, 5}, {"UTCTIME 1949-12-31T23:59:59Z", 1, 9}, {"UTCTIME 2050-01-01T00:00:00Z", 1, 9}, {"TIME 1950-01-01T00:00:00Z", 1, 6},
		{"TIME 2049-12-31T23:59:59Z", 1, 6}, {"TIME 2100-02-29T00:00:00Z", 1, 6}, {"TIME 2050-01-01", 1, 6}, {"TIME 20500101000000Z", 1, 6},
		{"TIME 2050-01-01 00:00:00Z", 1, 6}, {"UTCTIME 500101000000Z", 1, 9}, {"UTCTIME ?", 1, 9}, {`UTCTIME "1999-12-31T23:59:59Z"`, 1, 9},
		{"SET", 1, 4}, {"SET ", 1, 5}, {"SET #", 1, 5}, {"SET #00", 1, 5}, {"SET }", 1, 5}, {"SET NULL", 1, 5}, {"SET ?", 1, 5}, {"SET \"\"", 1, 5},
		{"SEQUENCE", 1, 9}, {"SEQUENCE #", 1, 10}, {"SET{SET}", 1, 8}, {"NULL #0", 1, 6}, {"NULL #x", 1, 6},
		// Within braces.
		{"SET{", 1, 5}, {"SET { ", 1, 7}, {"SET {\n", 2, 1}, {"SET{NULL", 1, 9}, {"SET{NULL{", 1, 10}, {"SET{{", 1, 5}, {"SET{{}}", 1, 5}, {"SET{x", 1, 5},
		{"SET{x}", 1, 5}, {"SET{#}", 1, 5}, {"SET{NULL x}", 1, 10}, {"SET{NULL #x}", 1, 10}, {"SET{NULL 7}", 1, 10}, {`SET{NULL"a"}`, 1, 9},
		{"SET{INTEGER}", 1, 12}, {"SET{INTEGER 7 7}", 1, 15}, {"SET{NULL{}{}}", 1, 11}, {"SET{\n  NULL\n  INTEGER 7\n  x\n}\n", 4, 3},
		{"SET{\n\tINTEGER\n\t}", 3, 2}, {`SET{"}"}`, 1, 5}, {"SET{[}]}", 1, 5}, {"SET{SET{}", 1, 10}, {"SET{SET{}\n", 2, 1},
		// After the element.
		{"NULL NULL", 1, 6}, {"NULL x", 1, 6}, {"NULL }", 1, 6}, {"NULL 7", 1, 6}, {`NULL "`, 1, 6}, {"NULL[", 1, 5}, {"NULL # #", 1, 8}, {"NULL # {", 1, 8},
		{"SET{}}", 1, 6}, {"SET{}{}", 1, 6}, {"SET {} }", 1, 8}, {"SET{}NULL", 1, 6}, {"SET{}\nx", 2, 1}, {"SET{}\n\n  \x00", 3, 3}, {"INTEGER 7{}", 1, 10},
		{"INTEGER 7 8", 1, 11}, {`UTF8 "a"{`, 1, 9}, {"INTEGER 7\n\n\n\t\tINTEGER 7\n", 4, 3},
	} {
		checkFault(t, x.s, fault{x.line, x.column, api.ErrForm})
		if _, f := refer(x.s); f != (fault{x.line, x.column, api.ErrForm}) {
			t.Errorf("the rules lead to %v for %q", f, x.s)
		}
	}
}

// open returns the beginning of a notation with n open SETs.
func open(n int) string { return strings.Repeat("SET{", n) }

// nulls returns n NULLs.
func nulls(n int) string { return strings.Repeat("NULL ", n) }

func TestParseDepthAndNumber(t *testing.T) {
	for _, x := range []struct {
		s      string
		column int
		err    api.Errno
	}{
		// The word, then the depth, then the number, and only then what follows the word.
		{open(16) + "NULL", 65, api.ErrDepth},
		{open(17), 65, api.ErrDepth},
		{open(100000), 65, api.ErrDepth},
		{open(16) + "x", 65, api.ErrForm},
		{open(16) + "{", 65, api.ErrForm},
		{open(16), 65, api.ErrForm},
		{open(16) + "[universal 0]", 65, api.ErrForm},
		{open(16) + "INTEGER x", 65, api.ErrDepth},
		{open(16) + "SET #", 65, api.ErrDepth},
		{open(16) + "}x", 66, api.ErrForm},
		{open(15) + "NULL{NULL", 66, api.ErrDepth},
		{open(15) + "INTEGER x", 69, api.ErrForm},
		{open(1) + nulls(8192), 5 + 5*8191, api.ErrLimit},
		{open(1) + nulls(8191) + "x", 5 + 5*8191, api.ErrForm},
		{open(1) + nulls(8191) + "INTEGER x", 5 + 5*8191, api.ErrLimit},
		{open(1) + nulls(8191) + "SET #", 5 + 5*8191, api.ErrLimit},
		{open(1) + nulls(8191) + "SET", 5 + 5*8191, api.ErrLimit},
		{open(1) + nulls(8191), 5 + 5*8191, api.ErrForm},
		{open(1) + nulls(8191) + "}NULL", 6 + 5*8191, api.ErrForm},
		{open(1) + nulls(8190) + "NULL{NULL", 10 + 5*8190, api.ErrLimit},
		{open(1) + nulls(8190) + "INTEGER x", 13 + 5*8190, api.ErrForm},
		{open(2) + nulls(8190) + "}NULL", 10 + 5*8190, api.ErrLimit},
		{open(1) + nulls(8176) + open(15) + "NULL", 5 + 5*8176 + 60, api.ErrDepth}, // both
		{open(1) + nulls(8177) + open(15), 5 + 5*8177 + 56, api.ErrLimit},
		{open(16) + "}" + nulls(8177), 66 + 5*8176, api.ErrLimit},
		{open(16) + "}" + nulls(8176) + "NULL{NULL", 66 + 5*8176, api.ErrLimit},
	} {
		checkFault(t, x.s, fault{1, x.column, x.err})
		checkParse(t, x.s)
	}
	closed := strings.Repeat("}", 16)
	checkElement(t, open(16)+closed, nest(set(), 15))
	checkElement(t, open(15)+"INTEGER 7"+closed[1:], nest(leaf(2, 7), 15))
	checkElement(t, open(1)+nulls(8191)+"}", repeat(null(), 8191))
	checkElement(t, open(2)+nulls(8189)+"}NULL}", set(repeat(null(), 8189), null()))
	checkElement(t, open(2)+nulls(8190)+"}}", set(repeat(null(), 8190)))
	checkElement(t, open(15)+nulls(8177)+closed[1:], nest(repeat(null(), 8177), 14))
}

func TestParseLimit(t *testing.T) {
	fill := func(n int) string { return strings.Repeat("0", n) }
	for _, s := range []string{"NULL", "SET{}", "OCTETS #", "x", "", "NULL NULL", `UTF8 "`, open(17)} {
		for _, filler := range []string{" ", "\n", "\t"} {
			if filler != "\t" {
				checkParse(t, strings.Repeat(filler, maxText-len(s))+s)
				checkParse(t, s+strings.Repeat(filler, maxText-len(s)))
			}
			checkFault(t, strings.Repeat(filler, maxText-len(s)+1)+s, fault{0, 0, api.ErrLimit})
			checkFault(t, s+strings.Repeat(filler, maxText-len(s)+1), fault{0, 0, api.ErrLimit})
		}
	}
	checkElement(t, "OCTETS #"+fill(maxText-8), leaf(4, make([]byte, maxText/2-4)...))
	checkElement(t, "NULL"+strings.Repeat("\n", maxText-4), null())
	checkFault(t, strings.Repeat("\n", maxText), fault{maxText + 1, 1, api.ErrForm})
	checkFault(t, strings.Repeat(" ", maxText), fault{1, maxText + 1, api.ErrForm})
	checkFault(t, strings.Repeat(" ", maxText-1)+"x", fault{1, maxText, api.ErrForm})
	checkFault(t, "OCTETS #"+fill(maxText-9), fault{1, 8, api.ErrForm})
	checkFault(t, "OCTETS #"+fill(maxText-7), fault{0, 0, api.ErrLimit})
	checkFault(t, strings.Repeat("NULL ", maxText), fault{0, 0, api.ErrLimit})
}

func TestParseOfLongTokens(t *testing.T) {
	for _, s := range []string{"x", "{", "}", `"`, "[", "]", "#", "0", "-", ".", "SET{", "SET{}", "NULL ", `""`, "[]", "[context 0]", "é", "\xff", "{}", "0.", "#0"} {
		for _, front := range []string{"", "SET{", "INTEGER ", "INTEGER -", "OCTETS #", "OID 1.2.", "OID 1.", `UTF8 "`, `BMP "`, "TIME ", "[context ", "NULL ", "BOOLEAN "} {
			text := front + strings.Repeat(s, (maxText-len(front))/len(s))
			checkParse(t, text[:1<<12])
			if e, line, column, err := notations.Parse(text); err == api.OK && (line != 0 || column != 0) || err != api.OK && (line < 1 || column < 1 || !samples.IsZero(e)) {
				t.Errorf("Parse(%q): error %d at %d, %d", brief(text), err, line, column)
			}
		}
	}
	for _, n := range []int{255, 256, 65535, 65536, 65537, 131072, 1 << 19} {
		for _, word := range []string{"UTF8", "PRINTABLE", "IA5", "VISIBLE", "BMP", "OCTETS"} {
			checkParse(t, word+` "`+strings.Repeat("a", n)+`"`)
			checkParse(t, word+" #"+strings.Repeat("61", min(n, 1<<18)))
		}
	}
}

func TestParseOfAllShortStrings(t *testing.T) {
	join := func(parts []string) string { return strings.Join(parts, "") }
	check := func(parts []string) { checkParse(t, join(parts)) }
	samples.Lists([]string{"NULL", "INTEGER", "SET", "7", "#07", "{", "}", " ", "\n", `"`, "[context 0]", "["}, 4, check)
	samples.Lists([]string{"NULL ", "SET", "{", "}", "#", "\n"}, 6, check)
	samples.Lists([]string{"UTF8", "BMP", `"`, "a", " ", "\\", "#", "{"}, 5, check)
	samples.Lists([]string{"[", "]", "context ", "universal ", "0", "5", "1", " constructed", "#", " "}, 5, check)
	samples.Lists([]string{"SET{", "}", "INTEGER ", "-", "0", "7", "OID ", "1.", "2"}, 5, check)
	for first := range 256 {
		for second := range 256 {
			octets := string([]byte{byte(first), byte(second)})
			checkParse(t, octets)
			checkParse(t, "OCTETS #"+octets)
			checkParse(t, `UTF8 "`+octets+`"`)
			checkParse(t, "INTEGER "+octets)
			checkParse(t, "SET{NULL"+octets+"}")
		}
	}
}

func TestParseOfAllValues(t *testing.T) {
	values := []string{"", "#", "#00", "#ff", "#0", "TRUE", "FALSE", "0", "7", "-7", "300", "2.5.29.32", "1.2", "0.0", `""`, `"a"`, `"*"`, `"_"`, `"a b"`, "1999-12-31T23:59:59Z", "2050-01-01T00:00:00Z", "2050-02-30T00:00:00Z", "{}", "{NULL}", "{", "}", "NULL", "?", "[context 0]"}
	someTags(func(tag api.Tag) {
		for _, value := range values {
			if word := wantWord(tag); tag.Class < 5 {
				checkParse(t, word+" "+value)
				checkParse(t, "SET{"+word+value+"}")
			}
		}
	})
}

func TestParseOfIntegersAboutTheLimits(t *testing.T) {
	for bit := range 70 {
		for near := int64(-2); near <= 2; near++ {
			n := new(big.Int).Lsh(big.NewInt(1), uint(bit))
			n.Add(n, big.NewInt(near))
			for _, word := range []string{"INTEGER ", "ENUMERATED "} {
				checkParse(t, word+n.String())
				checkParse(t, word+new(big.Int).Neg(n).String())
				checkParse(t, word+"0"+n.String())
				checkParse(t, word+"+"+n.String())
			}
		}
	}
}

func TestParseOfTimes(t *testing.T) {
	for _, s := range []string{"0000-01-01T00:00:00Z", "1949-12-31T23:59:59Z", "1950-01-01T00:00:00Z", "1999-12-31T23:59:59Z", "2000-02-29T00:00:00Z", "2049-12-31T23:59:59Z", "2050-01-01T00:00:00Z", "9999-12-31T23:59:59Z", "10000-01-01T00:00:00Z"} {
		for _, word := range []string{"UTCTIME ", "TIME "} {
			checkParse(t, word+s)
			for i := range s {
				for _, c := range []string{"", "0", "1", "2", "9", "-", "T", "Z", ":", " ", "a", "\xff"} {
					checkParse(t, word+s[:i]+c+s[i+1:])
					checkParse(t, word+s[:i]+c+s[i:])
				}
			}
		}
	}
}

// changed returns a notation with a few random changes.
func (r random) changed(s string) string {
	for range 1 + r.Intn(2) {
		i := r.Intn(len(s) + 1)
		k := min(len(s), i+r.Intn(6))
		switch r.Intn(4) {
		case 0:
			s = s[:i] + s[k:]
		case 1:
			s = s[:i] + s[i:k] + s[i:]
		default:
			s = s[:i] + pick(r, []string{" ", "\n", "\t", "{", "}", `"`, "[", "]", "#", "0", "-", ".", "a", "A", "\r", "\x00", "\xff", "é", "NULL", " SET {", "#00", "TRUE"}) + s[pick(r, []int{i, k}):]
		}
	}
	return s
}

func TestParseOfChangedNotations(t *testing.T) {
	r := random{rand.New(rand.NewSource(2))}
	accepted := 0
	for i := range 60000 {
		s := r.changed(wantNotation(r.element(1 + i%5)))
		checkParse(t, s)
		if _, _, _, err := notations.Parse(s); err == api.OK {
			accepted++
		}
	}
	if accepted < 6000 || accepted > 54000 {
		t.Errorf("%d strings were accepted", accepted)
	}
}

// wide returns a notation of an element in the wide sense: the values of some primitive elements are digits, and there is any white space between the tokens.
func (r random) wide(e api.Element) string {
	blank := func() string { return strings.Repeat(pick(r, []string{" ", "\n", "\t", " \n", "\n\t "}), r.Intn(3)) }
	word := blank() + wantWord(e.Tag)
	if e.Tag.Constructed {
		s := word + blank() + "{"
		for _, sub := range e.Subs {
			s += r.wide(sub) + " "
		}
		return s + blank() + "}" + blank()
	}
	value := wantValue(e.Tag, e.Bytes)
	if r.Intn(2) == 0 {
		value = "#" + hex.EncodeToString(e.Bytes)
	}
	return word + pick(r, []string{" ", "\n", "\t"}) + blank() + value + blank()
}

func TestParseInTheWideSense(t *testing.T) {
	r := random{rand.New(rand.NewSource(3))}
	for i := range 20000 {
		e := r.element(1 + i%8)
		checkElement(t, r.wide(e), e)
		if t.Failed() {
			return
		}
	}
}

// P11.4

func TestParseInvertsPrint(t *testing.T) {
	r := random{rand.New(rand.NewSource(4))}
	for i := range 20000 {
		e := r.element(1 + i%16)
		s, err := notations.Print(e)
		if err != api.OK {
			t.Fatalf("Print: error %d", err)
		}
		back, line, column, err := notations.Parse(s)
		if err != api.OK || line != 0 || column != 0 || !samples.Equal(back, e) {
			t.Fatalf("Parse(%q): %v, error %d at %d, %d", s, back, err, line, column)
		}
		if again, err := notations.Print(back); err != api.OK || again != s {
			t.Fatalf("Print(Parse(%q)): %q, error %d", s, again, err)
		}
	}
}

// structure returns the tokens of a string that are no values.
func structure(s string) []string {
	return slices.DeleteFunc(tokenForm.FindAllString(s, -1), func(token string) bool {
		_, isWord := wantTag(token)
		return !isWord && token != "{" && token != "}"
	})
}

func TestPrintHasTheTokensThatWereParsed(t *testing.T) {
	r := random{rand.New(rand.NewSource(5))}
	accepted := 0
	for i := range 40000 {
		s := r.wide(r.element(1 + i%5))
		if i%2 == 0 {
			s = r.changed(s)
		}
		e, _, _, err := notations.Parse(s)
		if err != api.OK {
			continue
		}
		accepted++
		printed, err := notations.Print(e)
		if err != api.OK || !slices.Equal(structure(printed), structure(s)) {
			t.Fatalf("Print(Parse(%q)): %q, error %d", s, printed, err)
		}
	}
	if accepted < 20000 {
		t.Errorf("%d strings were accepted", accepted)
	}
}

func TestDifferentElementsHaveDifferentNotations(t *testing.T) {
	seen := map[string]api.Element{}
	see := func(e api.Element) {
		s, err := notations.Print(e)
		if err != api.OK {
			t.Fatalf("Print: error %d", err)
		}
		if other, found := seen[s]; found && !samples.Equal(e, other) {
			t.Fatalf("%v and %v have the notation %q", e, other, s)
		}
		seen[s] = e
	}
	for _, tag := range primitives() {
		samples.Lists(samples.Octets(), 1, func(b []byte) {
			see(api.Element{Tag: tag, Bytes: b})
			see(api.Element{Tag: tag, Bytes: append([]byte{0}, b...)})
			see(set(api.Element{Tag: tag, Bytes: b}))
		})
		tag.Constructed = true
		see(api.Element{Tag: tag})
		see(set(api.Element{Tag: tag}))
	}
	r := random{rand.New(rand.NewSource(6))}
	for range 30000 {
		see(r.element(3))
	}
	// How elements are nested matters, not only which ones there are.
	samples.Lists([]string{"SET{", "}", "NULL "}, 9, func(parts []string) {
		if e, _, _, err := notations.Parse(strings.Join(parts, "")); err == api.OK {
			see(e)
		}
	})
}

// The examples of the chapter

func TestExamples(t *testing.T) {
	chapterE := api.Element{Tag: api.Tag{Constructed: true, Number: 16}, Subs: []api.Element{leaf(2, 7), leaf(6, 0x55, 0x1d, 0x20)}}
	if decoded, _, err := elements.Get([]byte{0x30, 8, 2, 1, 7, 6, 3, 0x55, 0x1d, 0x20}); err != api.OK || !samples.Equal(decoded, chapterE) {
		t.Errorf("E: %v, error %d", decoded, err)
	}
	checkPrint(t, chapterE, "SEQUENCE {\n  INTEGER 7\n  OID 2.5.29.32\n}\n")
	for tag, want := range map[api.Tag]string{{Class: 2}: "[context 0]", {Number: 7}: "[universal 7]", {Number: 17, Constructed: true}: "SET"} {
		if got := notations.Word(tag); got != want {
			t.Errorf("Word(%v): %q, want %q", tag, got, want)
		}
	}
	for _, x := range []struct {
		e    api.Element
		want string
	}{{null(), ""}, {leaf(2, 0, 7), "#0007"}, {leaf(19, 'a', 'b'), `"ab"`}, {leaf(12, '"'), "#22"}, {leaf(4), "#"}} {
		if got := notations.Value(x.e); got != x.want {
			t.Errorf("Value(%v): %q, want %q", x.e, got, x.want)
		}
	}
	checkElement(t, "SEQUENCE{INTEGER 7 OID 2.5.29.32}", chapterE)
	checkElement(t, "OCTETS #0aff", leaf(4, 0x0a, 0xff))
	checkElement(t, "[context 0] {NULL}", api.Element{Tag: api.Tag{Class: 2, Constructed: true}, Subs: []api.Element{null()}})
	checkFault(t, "INTEGER 07", fault{1, 9, api.ErrForm})
	checkFault(t, "SEQUENCE {", fault{1, 11, api.ErrForm})
	checkFault(t, "NULL NULL", fault{1, 6, api.ErrForm})
	checkFault(t, "[universal 2] #01", fault{1, 1, api.ErrForm})
	checkFault(t, "SET #00", fault{1, 5, api.ErrForm})
	checkElement(t, "BOOLEAN #01", leaf(1, 1))
	checkFault(t, "BOOLEAN 1", fault{1, 9, api.ErrForm})
}

// R4

func TestResultsAreNewMemory(t *testing.T) {
	r := random{rand.New(rand.NewSource(7))}
	for i := range 2000 {
		e := r.element(1 + i%8)
		s := r.wide(e)
		first, _, _, _ := notations.Parse(s)
		second, _, _, _ := notations.Parse(s)
		if samples.HasSpare(first) {
			t.Errorf("Parse(%q) has spare capacity", s)
		}
		samples.Spoil(first)
		if !samples.Equal(second, e) {
			t.Fatalf("Parse(%q): results share memory", s)
		}
		if third, _, _, err := notations.Parse(s); err != api.OK || !samples.Equal(third, e) {
			t.Fatalf("Parse(%q) after a change of an earlier result: %v, error %d", s, third, err)
		}
	}
}

func TestPartsOfAResultShareNoMemory(t *testing.T) {
	for _, value := range []string{"BOOLEAN TRUE", "INTEGER 7", "OID 2.5", `UTF8 "a"`, `BMP "a"`, "TIME 2050-01-01T00:00:00Z", "UTCTIME 1999-12-31T23:59:59Z", "OCTETS #00", "SET{NULL #00}"} {
		e, _, _, err := notations.Parse("SET{" + value + " " + value + "}")
		want, _, _, _ := notations.Parse(value)
		if err != api.OK || len(e.Subs) != 2 {
			t.Fatalf("%s: error %d", value, err)
		}
		samples.Spoil(e.Subs[0])
		if !samples.Equal(e.Subs[1], want) {
			t.Errorf("%s: parts share memory", value)
		}
	}
}

func TestArgumentsAreNeitherModifiedNorKept(t *testing.T) {
	r := random{rand.New(rand.NewSource(8))}
	for i := range 2000 {
		e := r.element(1 + i%8)
		encoding, _ := elements.Put(e)
		s, _ := notations.Print(e)
		kept := strings.Clone(s)
		value := notations.Value(e)
		keptValue := strings.Clone(value)
		if after, _ := elements.Put(e); !bytes.Equal(after, encoding) {
			t.Fatalf("Print or Value changed %q", s)
		}
		samples.Spoil(e)
		if s != kept || value != keptValue {
			t.Fatalf("%q and %q were kept in the memory of an argument", kept, keptValue)
		}
	}
}
