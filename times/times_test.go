package times_test

import (
	"bytes"
	"encoding/asn1"
	"fmt"
	"math"
	"math/rand"
	"regexp"
	"slices"
	"strconv"
	"strings"
	"testing"
	"time"

	"vidimus/api"
	"vidimus/elements"
	"vidimus/times"
)

// lastSecond is the number of seconds of the last valid time: 25 times 400 years have gone by after it.
const lastSecond = 25*146097*86400 - 1

// moment returns a time as one of the standard library, which counts on where a number is too large.
func moment(v times.Time) time.Time {
	return time.Date(v.Year, time.Month(v.Month), v.Day, v.Hour, v.Minute, v.Second, 0, time.UTC)
}

// ofMoment returns a time of the standard library.
func ofMoment(m time.Time) times.Time {
	return times.Time{Year: m.Year(), Month: int(m.Month()), Day: m.Day(), Hour: m.Hour(), Minute: m.Minute(), Second: m.Second()}
}

// isValid reports whether a time is valid: the standard library has nothing to count on.
func isValid(v times.Time) bool {
	return v.Year >= 0 && v.Year <= 9999 && ofMoment(moment(v)) == v
}

// wantSeconds returns the seconds of a valid time.
func wantSeconds(v times.Time) int {
	return int(moment(v).Unix() - moment(times.Time{Month: 1, Day: 1}).Unix())
}

// The forms of contents and texts.
var (
	utcForm         = regexp.MustCompile(`^([0-9]{2})([0-9]{2})([0-9]{2})([0-9]{2})([0-9]{2})([0-9]{2})Z$`)
	generalizedForm = regexp.MustCompile(`^([0-9]{4})([0-9]{2})([0-9]{2})([0-9]{2})([0-9]{2})([0-9]{2})Z$`)
	textForm        = regexp.MustCompile(`^([0-9]{4})-([0-9]{2})-([0-9]{2})T([0-9]{2}):([0-9]{2}):([0-9]{2})Z$`)
)

// numbers returns the time, which need not be valid, with the numbers of s, and whether s has the form.
func numbers(form *regexp.Regexp, s string) (times.Time, bool) {
	parts := form.FindStringSubmatch(s)
	if parts == nil {
		return times.Time{}, false
	}
	var n [6]int
	for i, part := range parts[1:] {
		n[i], _ = strconv.Atoi(part)
	}
	return times.Time{Year: n[0], Month: n[1], Day: n[2], Hour: n[3], Minute: n[4], Second: n[5]}, true
}

// wantOf returns the time with content octets below one of the two tags, and its error.
func wantOf(number uint32, content string) (times.Time, api.Errno) {
	form := map[uint32]*regexp.Regexp{23: utcForm, 24: generalizedForm}[number]
	v, ok := numbers(form, content)
	switch {
	case number == 23 && v.Year < 50:
		v.Year += 2000
	case number == 23:
		v.Year += 1900
	case v.Year >= 1950 && v.Year <= 2049:
		ok = false
	}
	if !ok || !isValid(v) {
		return times.Time{}, api.ErrValue
	}
	return v, api.OK
}

// wantParse returns the time with a text, and its error.
func wantParse(s string) (times.Time, api.Errno) {
	v, ok := numbers(textForm, s)
	if !ok || !isValid(v) {
		return times.Time{}, api.ErrForm
	}
	return v, api.OK
}

// clock returns the time of a day of which a number of seconds have gone by.
func clock(v times.Time, seconds int) times.Time {
	v.Hour, v.Minute, v.Second = seconds/3600, seconds/60%60, seconds%60
	return v
}

// validTimes calls use with valid times: on both sides of each limit between two months of all years, each second of a day, and others.
func validTimes(use func(v times.Time)) {
	random := rand.New(rand.NewSource(1))
	for year := range 10000 {
		for month := 1; month <= 12; month++ {
			last := time.Date(year, time.Month(month+1), 0, 0, 0, 0, 0, time.UTC).Day()
			use(times.Time{Year: year, Month: month, Day: 1})
			use(clock(times.Time{Year: year, Month: month, Day: last}, 86399))
			use(clock(times.Time{Year: year, Month: month, Day: 1 + random.Intn(last)}, random.Intn(86400)))
		}
	}
	for second := range 86400 {
		use(clock(times.Time{Year: 2000, Month: 2, Day: 29}, second))
	}
}

// fewTimes lists valid times that have something of their own.
func fewTimes() []times.Time {
	return []times.Time{
		{0, 1, 1, 0, 0, 0}, {0, 2, 29, 12, 34, 56}, {4, 3, 2, 1, 0, 5}, {999, 9, 9, 9, 9, 9},
		{1949, 12, 31, 23, 59, 59}, {1950, 1, 1, 0, 0, 0}, {1999, 12, 31, 23, 59, 59}, {2000, 1, 1, 0, 0, 0},
		{2000, 2, 29, 10, 20, 30}, {2024, 11, 20, 4, 7, 39}, {2049, 12, 31, 23, 59, 59}, {2050, 1, 1, 0, 0, 0},
		{2345, 6, 17, 18, 19, 20}, {9999, 12, 31, 23, 59, 59},
	}
}

// numbersThatMatter lists numbers on both sides of the limits of a field, whose least and greatest values are given, and others that become valid in a smaller type.
func numbersThatMatter(low, high int) []int {
	list := []int{math.MinInt, math.MinInt + 1, math.MinInt32, -10000, -400, -100, -4, -2, -1, math.MaxInt32, math.MaxInt - 1, math.MaxInt}
	for _, n := range []int{low, high} {
		list = append(list, n-1, n, n+1, -n, n+100, n+10000)
		for _, bit := range []int{8, 16, 32, 63} {
			list = append(list, n+1<<bit, n-1<<bit)
		}
	}
	return list
}

// changedTimes calls use with valid and other times: each field, and each two of them, have the numbers that matter.
func changedTimes(use func(v times.Time)) {
	for _, v := range []times.Time{{}, {2023, 2, 28, 23, 59, 59}, {2024, 2, 29, 0, 0, 0}, {1900, 2, 29, 1, 1, 1}, {9999, 12, 31, 12, 30, 30}, {2000, 4, 30, 5, 6, 7}} {
		fields := []*int{&v.Year, &v.Month, &v.Day, &v.Hour, &v.Minute, &v.Second}
		lists := [][]int{
			numbersThatMatter(0, 9999), numbersThatMatter(1, 12), append(numbersThatMatter(1, 31), 28, 29, 30),
			numbersThatMatter(0, 23), numbersThatMatter(0, 59), numbersThatMatter(0, 59),
		}
		for i, a := range fields {
			for k, b := range fields[:i+1] {
				oldA, oldB := *a, *b
				for _, n := range lists[i] {
					for _, m := range lists[k] {
						*a, *b = n, m
						use(v)
					}
				}
				*a, *b = oldA, oldB
			}
		}
	}
}

// allNumbers calls use with times of all numbers that two digits can have (four for the year), for each two fields beside each other.
func allNumbers(use func(v times.Time)) {
	for year := range 10000 {
		for _, date := range [][2]int{{1, 1}, {2, 28}, {2, 29}, {2, 30}, {12, 31}, {0, 1}, {13, 1}} {
			use(times.Time{year, date[0], date[1], 12, 0, 59})
		}
	}
	for i := range 100 {
		for k := range 100 {
			for _, year := range []int{0, 99, 400, 1900, 1949, 1950, 2000, 2023, 2024, 2049, 2050, 2100, 9999} {
				use(times.Time{year, i, k, 1, 2, 3})
			}
			use(times.Time{2000, 2, i, k, 59, 0})
			use(times.Time{2000, 2, 29, i, k, 59})
			use(times.Time{2050, 2, 28, 23, i, k})
		}
	}
}

// changed calls use with all strings that differ from s in one character, and with others that are shorter, longer or in another order.
func changed(s string, use func(s string)) {
	use(s + s)
	for i := range len(s) + 1 {
		use(s[:i])
		use(s[i:])
		use(s[i:] + s[:i])
		for octet := range 256 {
			use(s[:i] + string([]byte{byte(octet)}) + s[i:])
		}
	}
	for i := range len(s) {
		use(s[:i] + s[i+1:])
		for octet := range 256 {
			use(s[:i] + string([]byte{byte(octet)}) + s[i+1:])
		}
		for _, other := range []string{"+1", "-1", " 1", "1 ", "1.", "1e", "0x", "1_", "\xef\xbc", "::", "00", "ZZ"} {
			use(s[:i] + other + s[min(i+2, len(s)):])
		}
		for _, digit := range []string{"１", "٣", "²", "߀"} { // they are digits too, but not of ASCII
			use(s[:i] + digit + s[i+1:])
			use(s[:i] + digit + s[min(i+len(digit), len(s)):])
		}
	}
}

// content returns an element with content octets.
func content(number uint32, s string) api.Element {
	return api.Element{Tag: api.Tag{Number: number}, Bytes: []byte(s)}
}

// P10.1

func TestCheck(t *testing.T) {
	check := func(v times.Time) {
		want := api.ErrArg
		if isValid(v) {
			want = api.OK
		}
		if e := times.Check(v); e != want {
			t.Fatalf("Check(%v): error %d, want %d", v, e, want)
		}
	}
	validTimes(check)
	changedTimes(check)
	allNumbers(check)
}

// TestCheckErrors has one case for each side of each limit.
func TestCheckErrors(t *testing.T) {
	for _, x := range []struct {
		v times.Time
		e api.Errno
	}{
		{times.Time{}, api.ErrArg},
		{times.Time{0, 1, 1, 0, 0, 0}, api.OK},
		{times.Time{-1, 1, 1, 0, 0, 0}, api.ErrArg},
		{times.Time{-4, 1, 1, 0, 0, 0}, api.ErrArg},
		{times.Time{9999, 12, 31, 23, 59, 59}, api.OK},
		{times.Time{10000, 1, 1, 0, 0, 0}, api.ErrArg},
		{times.Time{2000, 0, 1, 0, 0, 0}, api.ErrArg},
		{times.Time{2000, 13, 1, 0, 0, 0}, api.ErrArg},
		{times.Time{2000, 1, 0, 0, 0, 0}, api.ErrArg},
		{times.Time{2000, 1, 32, 0, 0, 0}, api.ErrArg},
		{times.Time{2000, 4, 31, 0, 0, 0}, api.ErrArg},
		{times.Time{2000, 2, 29, 0, 0, 0}, api.OK},
		{times.Time{2000, 2, 30, 0, 0, 0}, api.ErrArg},
		{times.Time{1900, 2, 29, 0, 0, 0}, api.ErrArg},
		{times.Time{2023, 2, 29, 0, 0, 0}, api.ErrArg},
		{times.Time{2000, 1, 1, -1, 0, 0}, api.ErrArg},
		{times.Time{2000, 1, 1, 24, 0, 0}, api.ErrArg},
		{times.Time{2000, 1, 1, 0, -1, 0}, api.ErrArg},
		{times.Time{2000, 1, 1, 0, 60, 0}, api.ErrArg},
		{times.Time{2000, 1, 1, 0, 0, -1}, api.ErrArg},
		{times.Time{2016, 12, 31, 23, 59, 60}, api.ErrArg},
	} {
		if e := times.Check(x.v); e != x.e {
			t.Errorf("Check(%v): error %d, want %d", x.v, e, x.e)
		}
	}
}

// isLeap is the definition on the digits of a year: the last two tell whether it is divisible by 4 and 100, the last four by 400.
func isLeap(year int) bool {
	digits := "0000" + strings.TrimPrefix(strconv.Itoa(year), "-")
	last, _ := strconv.Atoi(digits[len(digits)-4:])
	if last%100 == 0 {
		return last%400 == 0
	}
	return last%4 == 0
}

// years lists years of all kinds, which may be any numbers.
func years() []int {
	var list []int
	for year := -10400; year <= 20400; year++ {
		list = append(list, year)
	}
	for _, year := range numbersThatMatter(0, 9999) {
		for n := range 801 {
			list = append(list, year-n, year+n) // some become numbers of the other sign
		}
	}
	return list
}

func TestLeap(t *testing.T) {
	for _, year := range years() {
		if got := times.Leap(year); got != isLeap(year) {
			t.Fatalf("Leap(%d): %t", year, got)
		}
	}
}

func TestLeapAgainstAnotherImplementation(t *testing.T) {
	for year := -10000; year <= 20000; year++ {
		want := time.Date(year, 12, 31, 0, 0, 0, 0, time.UTC).YearDay() == 366
		if got := times.Leap(year); got != want {
			t.Fatalf("Leap(%d): %t", year, got)
		}
	}
}

func TestDays(t *testing.T) {
	for _, year := range years() {
		want := []int{0, 31, 28, 31, 30, 31, 30, 31, 31, 30, 31, 30, 31, 0, 0}
		if isLeap(year) {
			want[2] = 29
		}
		for month, days := range want {
			if got := times.Days(year, month); got != days {
				t.Fatalf("Days(%d, %d): %d, want %d", year, month, got, days)
			}
		}
	}
}

func TestDaysAgainstAnotherImplementation(t *testing.T) {
	for year := -10000; year <= 20000; year++ {
		for month := time.January; month <= time.December; month++ {
			want := time.Date(year, month+1, 0, 0, 0, 0, 0, time.UTC).Day()
			if got := times.Days(year, int(month)); got != want {
				t.Fatalf("Days(%d, %d): %d, want %d", year, month, got, want)
			}
		}
	}
}

func TestDaysOfOtherMonths(t *testing.T) {
	for _, year := range []int{math.MinInt, -4, 0, 2023, 2024, math.MaxInt} {
		for _, month := range numbersThatMatter(1, 12) {
			if month >= 1 && month <= 12 {
				continue
			}
			if got := times.Days(year, month); got != 0 {
				t.Errorf("Days(%d, %d): %d, want 0", year, month, got)
			}
		}
	}
}

// P10.2

// wantElement returns the tag number and the content octets of a valid time.
func wantElement(v times.Time) (uint32, string) {
	if v.Year >= 1950 && v.Year <= 2049 {
		return 23, moment(v).Format("060102150405Z")
	}
	return 24, moment(v).Format("20060102150405Z")
}

func TestElement(t *testing.T) {
	validTimes(func(v times.Time) {
		number, octets := wantElement(v)
		x, e := times.Element(v)
		if e != api.OK || x.Tag != (api.Tag{Number: number}) || string(x.Bytes) != octets || len(x.Subs) > 0 {
			t.Fatalf("Element(%v): %v %q, error %d, want %d %q", v, x.Tag, x.Bytes, e, number, octets)
		}
		if cap(x.Bytes) != len(x.Bytes) {
			t.Fatalf("Element(%v): the octets have the capacity %d", v, cap(x.Bytes))
		}
	})
}

func TestElementAgainstAnotherImplementation(t *testing.T) {
	count := 0
	validTimes(func(v times.Time) {
		if count++; count%5 > 0 {
			return
		}
		want, err := asn1.Marshal(moment(v))
		if err != nil {
			t.Fatal(err)
		}
		x, e := times.Element(v)
		got, e2 := elements.Put(x)
		if e != api.OK || e2 != api.OK || !bytes.Equal(got, want) {
			t.Fatalf("Element(%v): %q, errors %d and %d, want %q", v, got, e, e2, want)
		}
	})
}

// checkNone checks that an element that comes with an error is the zero value.
func checkNone(t *testing.T, v times.Time, x api.Element, e, want api.Errno) {
	t.Helper()
	if e != want || x.Tag != (api.Tag{}) || len(x.Bytes) > 0 || len(x.Subs) > 0 {
		t.Fatalf("Element(%v): %v, error %d, want %d", v, x, e, want)
	}
}

func TestElementOfInvalidTimes(t *testing.T) {
	check := func(v times.Time) {
		if !isValid(v) {
			x, e := times.Element(v)
			checkNone(t, v, x, e, api.ErrArg)
		}
	}
	changedTimes(check)
	allNumbers(check)
}

// checkOf compares Of with the definition for content octets below both tags.
func checkOf(t *testing.T, s string) {
	t.Helper()
	for _, number := range []uint32{23, 24} {
		want, wantError := wantOf(number, s)
		if v, e := times.Of(content(number, s)); v != want || e != wantError {
			t.Fatalf("Of(%d %q): %v, error %d, want %v, error %d", number, s, v, e, want, wantError)
		}
	}
}

func TestOf(t *testing.T) {
	validTimes(func(v times.Time) {
		number, octets := wantElement(v)
		if w, e := times.Of(content(number, octets)); e != api.OK || w != v {
			t.Fatalf("Of(%d %q): %v, error %d", number, octets, w, e)
		}
	})
}

func TestOfAllNumbers(t *testing.T) {
	allNumbers(func(v times.Time) {
		rest := fmt.Sprintf("%02d%02d%02d%02d%02dZ", v.Month, v.Day, v.Hour, v.Minute, v.Second)
		checkOf(t, fmt.Sprintf("%02d", v.Year%100)+rest)
		checkOf(t, fmt.Sprintf("%04d", v.Year)+rest)
	})
}

func TestOfChangedContents(t *testing.T) {
	for _, v := range fewTimes() {
		_, octets := wantElement(v)
		changed(octets, func(s string) { checkOf(t, s) })
		changed(octets[len(octets)-13:], func(s string) { checkOf(t, s) })
	}
}

func TestOfOtherForms(t *testing.T) {
	list := []string{
		"", "Z", "0", "?", "991231Z", "9912312359Z", "99123123595Z", "991231235959", "991231235959z", "991231235959ZZ", "991231235959Z\x00", "\x00991231235959Z",
		"991231235959+0000", "991231235959-0100", "9912312359+0100", "991231235959.Z", "991231235959.5Z", "991231235959.0Z", "99-12-31T23:59:59Z",
		"19991231235959Z", "20491231235959Z", "19500101000000Z", "20500101000000", "20500101000000.0Z", "20500101000000.5Z", "20500101000000,5Z", "20500101000000+0000",
		"205001010000Z", "2050010100Z", "20500101Z", "120500101000000Z", "2050-01-01T00:00:00Z", "-2050010100000Z", "+2050010100000Z",
		strings.Repeat("0", 13), strings.Repeat("Z", 13), strings.Repeat(" ", 13), strings.Repeat("0", 15), strings.Repeat("Z", 15),
		strings.Repeat("9", 1<<20), strings.Repeat("991231235959Z", 5000), strings.Repeat("20500101000000Z", 5000),
	}
	for _, s := range list {
		checkOf(t, s)
	}
}

// subs lists Subs that no time has.
func subs() [][]api.Element {
	return [][]api.Element{make([]api.Element, 1), make([]api.Element, 2), {content(23, "991231235959Z")}}
}

// octetsOfElements lists content octets that are valid below one of the two tags, or below none.
func octetsOfElements() []string {
	return []string{"", "991231235959Z", "20500101000000Z", "990229000000Z", "x"}
}

func TestOfSubs(t *testing.T) {
	for _, number := range []uint32{23, 24} {
		for _, s := range octetsOfElements() {
			for _, list := range subs() {
				x := content(number, s)
				x.Subs = list
				if v, e := times.Of(x); e != api.ErrArg || v != (times.Time{}) {
					t.Errorf("Of(%d %q with %d Subs): %v, error %d, want ErrArg", number, s, len(list), v, e)
				}
			}
		}
	}
}

// otherTags lists tags that times do not have.
func otherTags() []api.Tag {
	var list []api.Tag
	for number := range uint32(300) {
		if number != 23 && number != 24 {
			list = append(list, api.Tag{Number: number})
		}
	}
	for _, number := range []uint32{23, 24} {
		for _, other := range []uint32{1<<8 | number, 1<<16 | number, 1<<31 | number, ^number, -number} {
			list = append(list, api.Tag{Number: other})
		}
		for _, class := range []api.Class{0, 1, 2, 3, 4, 128, 255} {
			if class > 0 {
				list = append(list, api.Tag{Class: class, Number: number})
			}
			list = append(list, api.Tag{Class: class, Constructed: true, Number: number})
		}
	}
	return list
}

func TestOfOtherTags(t *testing.T) {
	for _, tag := range otherTags() {
		for _, s := range octetsOfElements() {
			for _, list := range append(subs(), nil) {
				if v, e := times.Of(api.Element{Tag: tag, Bytes: []byte(s), Subs: list}); e != api.ErrTag || v != (times.Time{}) {
					t.Fatalf("Of(%v %q with %d Subs): %v, error %d, want ErrTag", tag, s, len(list), v, e)
				}
			}
		}
	}
}

// P10.3

// checkCompare compares Compare with the order of the lists of the fields.
func checkCompare(t *testing.T, a, b times.Time) {
	t.Helper()
	fields := func(v times.Time) []int { return []int{v.Year, v.Month, v.Day, v.Hour, v.Minute, v.Second} }
	if got, want := times.Compare(a, b), slices.Compare(fields(a), fields(b)); got != want {
		t.Fatalf("Compare(%v, %v): %d, want %d", a, b, got, want)
	}
}

func TestCompare(t *testing.T) {
	var list []times.Time
	for i := range 729 { // each field has each of three numbers
		list = append(list, times.Time{1999 + i%3, 1 + i/3%3, 1 + i/9%3, i / 27 % 3, i / 81 % 3, i / 243 % 3})
	}
	for _, a := range list {
		for _, b := range list {
			checkCompare(t, a, b)
		}
	}
}

func TestCompareAnyValues(t *testing.T) {
	var list []times.Time
	for i := range 6 {
		for _, n := range numbersThatMatter(0, 59) {
			var fields [6]int
			fields[i] = n
			list = append(list, times.Time{fields[0], fields[1], fields[2], fields[3], fields[4], fields[5]})
		}
	}
	for _, a := range list {
		for _, b := range list {
			checkCompare(t, a, b)
		}
	}
}

// P10.4

func TestSeconds(t *testing.T) {
	validTimes(func(v times.Time) {
		if got, want := times.Seconds(v), wantSeconds(v); got != want {
			t.Fatalf("Seconds(%v): %d, want %d", v, got, want)
		}
	})
}

func TestSecondsOfInvalidTimes(t *testing.T) {
	check := func(v times.Time) {
		if got := times.Seconds(v); !isValid(v) && got != -1 {
			t.Fatalf("Seconds(%v): %d, want -1", v, got)
		}
	}
	changedTimes(check)
	allNumbers(check)
}

// checkAt checks that At and Seconds know a time and its number of seconds.
func checkAt(t *testing.T, seconds int, want times.Time) {
	t.Helper()
	v, e := times.At(seconds)
	if e != api.OK || v != want {
		t.Fatalf("At(%d): %v, error %d, want %v", seconds, v, e, want)
	}
	if got := times.Seconds(want); got != seconds {
		t.Fatalf("Seconds(%v): %d, want %d", want, got, seconds)
	}
}

// TestAllDays goes through the calendar day by day.
func TestAllDays(t *testing.T) {
	day := 0
	for year := range 10000 {
		for month, days := range []int{31, 28, 31, 30, 31, 30, 31, 31, 30, 31, 30, 31} {
			if month == 1 && isLeap(year) {
				days++
			}
			for k := range days {
				v := times.Time{Year: year, Month: month + 1, Day: k + 1}
				second := (day * 7919) % 86400
				checkAt(t, day*86400, v)
				checkAt(t, day*86400+second, clock(v, second))
				checkAt(t, day*86400+86399, clock(v, 86399))
				day++
			}
		}
	}
	if day*86400 != lastSecond+1 {
		t.Errorf("there are %d days", day)
	}
}

func TestAllSecondsOfADay(t *testing.T) {
	for _, date := range []times.Time{{Month: 1, Day: 1}, {Year: 2000, Month: 2, Day: 29}, {Year: 9999, Month: 12, Day: 31}} {
		first := wantSeconds(date)
		for second := range 86400 {
			checkAt(t, first+second, clock(date, second))
		}
	}
}

func TestAtAgainstAnotherImplementation(t *testing.T) {
	random := rand.New(rand.NewSource(1))
	first := moment(times.Time{Month: 1, Day: 1}).Unix()
	for range 100000 {
		seconds := random.Intn(lastSecond + 1)
		checkAt(t, seconds, ofMoment(time.Unix(first+int64(seconds), 0).UTC()))
	}
}

func TestAtOfOtherNumbers(t *testing.T) {
	list := []int{math.MinInt, math.MinInt + 1, -1 << 32, -lastSecond, -86401, -86400, -86399, -2, -1, lastSecond + 1, lastSecond + 2, lastSecond + 86400, 2 * lastSecond, math.MaxInt - 1, math.MaxInt}
	for _, bit := range []int{39, 40, 48, 56, 62} {
		list = append(list, 1<<bit, -1<<bit, 1<<bit+86400, -1<<bit+86400)
	}
	for _, seconds := range list {
		if v, e := times.At(seconds); e != api.ErrArg || v != (times.Time{}) {
			t.Errorf("At(%d): %v, error %d, want ErrArg", seconds, v, e)
		}
	}
}

// P10.5

func TestText(t *testing.T) {
	validTimes(func(v times.Time) {
		if got, want := times.Text(v), moment(v).Format("2006-01-02T15:04:05Z"); got != want {
			t.Fatalf("Text(%v): %q, want %q", v, got, want)
		}
	})
}

func TestTextOfInvalidTimes(t *testing.T) {
	check := func(v times.Time) {
		if got := times.Text(v); !isValid(v) && got != "?" {
			t.Fatalf("Text(%v): %q, want ?", v, got)
		}
	}
	changedTimes(check)
	allNumbers(check)
}

// checkParse compares Parse with the definition.
func checkParse(t *testing.T, s string) {
	t.Helper()
	want, wantError := wantParse(s)
	if v, e := times.Parse(s); v != want || e != wantError {
		t.Fatalf("Parse(%q): %v, error %d, want %v, error %d", s, v, e, want, wantError)
	}
}

func TestParse(t *testing.T) {
	validTimes(func(v times.Time) {
		s := moment(v).Format("2006-01-02T15:04:05Z")
		if w, e := times.Parse(s); e != api.OK || w != v {
			t.Fatalf("Parse(%q): %v, error %d", s, w, e)
		}
	})
}

func TestParseAllNumbers(t *testing.T) {
	allNumbers(func(v times.Time) {
		checkParse(t, fmt.Sprintf("%04d-%02d-%02dT%02d:%02d:%02dZ", v.Year, v.Month, v.Day, v.Hour, v.Minute, v.Second))
	})
}

func TestParseChangedTexts(t *testing.T) {
	for _, v := range fewTimes() {
		changed(times.Text(v), func(s string) { checkParse(t, s) })
	}
}

func TestParseOtherForms(t *testing.T) {
	for _, s := range []string{
		"", "?", "??", "Z", "2024-02-30T00:00:00Z", "2024-02-29T24:00:00Z", "2023-02-29T00:00:00Z", "2016-12-31T23:59:60Z", "2024-00-01T00:00:00Z", "2024-01-00T00:00:00Z", "0000-00-00T00:00:00Z",
		"2024-02-29", "2024-02-29T00:00Z", "2024-02-29T00:00:00", "2024-02-29 00:00:00Z", "2024-02-29t00:00:00z", "2024-02-29T00:00:00.0Z", "2024-02-29T00:00:00+00:00", "2024-02-29T00:00:00-00:00",
		"20240229T000000Z", "20240229000000Z", "240229000000Z", "24-02-29T00:00:00Z", "2024/02/29T00:00:00Z", "2024-2-29T00:00:00Z", "2024-02-29T0:00:00Z", "-024-02-29T00:00:00Z", "+2024-02-29T00:00:00Z", "12024-02-29T00:00:00Z", "-0004-02-29T00:00:00Z",
		" 2024-02-29T00:00:00Z", "2024-02-29T00:00:00Z ", "2024-02-29T00:00:00Z\n", "2024-02-29T00:00:00Z\x00", "２０２４-02-29T00:00:00Z", "2024-02-29T00:00:00Z2024-02-29T00:00:00Z",
		strings.Repeat("0", 20), strings.Repeat("?", 20), strings.Repeat(" ", 20), strings.Repeat("\xff", 20), strings.Repeat("9", 1<<20), strings.Repeat("2024-02-29T00:00:00Z", 1<<16),
	} {
		if v, e := times.Parse(s); e != api.ErrForm || v != (times.Time{}) {
			t.Errorf("Parse(%q): %v, error %d, want ErrForm", s[:min(len(s), 50)], v, e)
		}
	}
}

// P10.6

func TestInverses(t *testing.T) {
	validTimes(func(v times.Time) {
		x, _ := times.Element(v)
		fromElement, e1 := times.Of(x)
		fromText, e2 := times.Parse(times.Text(v))
		fromSeconds, e3 := times.At(times.Seconds(v))
		if fromElement != v || fromText != v || fromSeconds != v || e1 != api.OK || e2 != api.OK || e3 != api.OK {
			t.Fatalf("of %v: %v, %v, %v; errors %d, %d, %d", v, fromElement, fromText, fromSeconds, e1, e2, e3)
		}
	})
}

func TestOrdersAgree(t *testing.T) {
	random := rand.New(rand.NewSource(1))
	list := fewTimes()
	for range 600 {
		v, _ := times.At(random.Intn(lastSecond + 1))
		near, _ := times.At(min(times.Seconds(v)+random.Intn(100000), lastSecond))
		list = append(list, v, near)
	}
	for _, a := range list {
		for _, b := range list {
			want := times.Compare(a, b)
			bySeconds := min(max(times.Seconds(a)-times.Seconds(b), -1), 1)
			byText := strings.Compare(times.Text(a), times.Text(b))
			if bySeconds != want || byText != want {
				t.Fatalf("Compare(%v, %v) is %d, by seconds %d, by text %d", a, b, want, bySeconds, byText)
			}
		}
	}
}

func TestDaysOf400Years(t *testing.T) {
	yearDays := func(year int) int {
		sum := 0
		for month := range 14 {
			sum += times.Days(year, month)
		}
		return sum
	}
	for _, first := range []int{math.MinInt, -1 << 32, -1000, 0, 9600, 1 << 32, math.MaxInt - 1199} {
		sum := 0
		for k := range 1200 {
			sum += yearDays(first + k)
			if k >= 400 {
				sum -= yearDays(first + k - 400)
			}
			if k >= 399 && sum != 146097 {
				t.Fatalf("%d days in the 400 years to %d", sum, first+k)
			}
		}
	}
}

// The examples of the chapter

func TestCalendarExamples(t *testing.T) {
	if !times.Leap(2000) || times.Leap(1900) || !times.Leap(2024) {
		t.Errorf("Leap: %t, %t, %t", times.Leap(2000), times.Leap(1900), times.Leap(2024))
	}
	for _, x := range [][3]int{{2023, 2, 28}, {2024, 2, 29}, {2024, 13, 0}} {
		if got := times.Days(x[0], x[1]); got != x[2] {
			t.Errorf("Days(%d, %d): %d, want %d", x[0], x[1], got, x[2])
		}
	}
}

func TestElementExamples(t *testing.T) {
	for _, x := range []struct {
		v      times.Time
		number uint32
		octets string
	}{
		{times.Time{1999, 12, 31, 23, 59, 59}, 23, "991231235959Z"},
		{times.Time{2050, 1, 1, 0, 0, 0}, 24, "20500101000000Z"},
		{times.Time{1950, 1, 1, 0, 0, 0}, 23, "500101000000Z"},
		{times.Time{2049, 1, 1, 0, 0, 0}, 23, "490101000000Z"},
	} {
		got, e := times.Element(x.v)
		if e != api.OK || got.Tag != (api.Tag{Number: x.number}) || string(got.Bytes) != x.octets {
			t.Errorf("Element(%v): %v, error %d", x.v, got, e)
		}
		if v, e := times.Of(content(x.number, x.octets)); e != api.OK || v != x.v {
			t.Errorf("Of(%d %q): %v, error %d", x.number, x.octets, v, e)
		}
	}
	for _, x := range []api.Element{content(23, "990229000000Z"), content(24, "20490101000000Z"), content(23, "9912312359Z")} {
		if v, e := times.Of(x); e != api.ErrValue || v != (times.Time{}) {
			t.Errorf("Of(%d %q): %v, error %d, want ErrValue", x.Tag.Number, x.Bytes, v, e)
		}
	}
}

func TestSecondsExamples(t *testing.T) {
	checkAt(t, 1, times.Time{0, 1, 1, 0, 0, 1})
	checkAt(t, 31622400, times.Time{1, 1, 1, 0, 0, 0})
	checkAt(t, 86399, times.Time{0, 1, 1, 23, 59, 59})
	if v, e := times.At(-1); e != api.ErrArg || v != (times.Time{}) {
		t.Errorf("At(-1): %v, error %d, want ErrArg", v, e)
	}
}

func TestTextExamples(t *testing.T) {
	if got := times.Text(times.Time{}); got != "?" {
		t.Errorf("Text of the zero Time: %q", got)
	}
	for _, s := range []string{"2024-02-30T00:00:00Z", "2024-02-29T24:00:00Z"} {
		if v, e := times.Parse(s); e != api.ErrForm || v != (times.Time{}) {
			t.Errorf("Parse(%q): %v, error %d, want ErrForm", s, v, e)
		}
	}
}

// R4

func TestArgumentsAreNeitherModifiedNorKept(t *testing.T) {
	for _, v := range fewTimes() {
		number, octets := wantElement(v)
		memory := []byte(octets + octets) // what follows the content is none of it
		x := api.Element{Tag: api.Tag{Number: number}, Bytes: memory[:len(octets)]}
		got, e := times.Of(x)
		if string(memory) != octets+octets || x.Tag != (api.Tag{Number: number}) {
			t.Errorf("Of modifies %q: %q", octets, memory)
		}
		clear(memory)
		if e != api.OK || got != v {
			t.Errorf("Of(%d %q): %v, error %d", number, octets, got, e)
		}
	}
}

func TestResultsAreNewMemory(t *testing.T) {
	for _, v := range fewTimes() {
		_, octets := wantElement(v)
		first, _ := times.Element(v)
		for i := range first.Bytes {
			first.Bytes[i]++
		}
		if second, e := times.Element(v); e != api.OK || string(second.Bytes) != octets {
			t.Errorf("Element(%v) after a change of an earlier result: %q, error %d", v, second.Bytes, e)
		}
	}
}

func TestNilAndEmptyAreEqual(t *testing.T) {
	for _, empty := range [][]byte{nil, {}, make([]byte, 0, 20)} {
		for _, number := range []uint32{23, 24} {
			if v, e := times.Of(api.Element{Tag: api.Tag{Number: number}, Bytes: empty}); e != api.ErrValue || v != (times.Time{}) {
				t.Errorf("Of(%d, no octets): %v, error %d, want ErrValue", number, v, e)
			}
		}
	}
	for _, empty := range [][]api.Element{nil, {}, make([]api.Element, 0, 3)} {
		x := content(23, "991231235959Z")
		x.Subs = empty
		if v, e := times.Of(x); e != api.OK || v != (times.Time{1999, 12, 31, 23, 59, 59}) {
			t.Errorf("Of with empty Subs: %v, error %d", v, e)
		}
	}
}
