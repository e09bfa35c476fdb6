package samples_test

import (
	"slices"
	"testing"

	"vidimus/samples"
)

func TestLists(t *testing.T) {
	for _, x := range []struct {
		alphabet string
		size     int
		want     []string
	}{
		{"ab", 2, []string{"", "a", "aa", "ab", "b", "ba", "bb"}},
		{"ab", 1, []string{"", "a", "b"}},
		{"ab", 0, []string{""}},
		{"a", 3, []string{"", "a", "aa", "aaa"}},
		{"", 3, []string{""}},
	} {
		var got [][]byte
		samples.Lists([]byte(x.alphabet), x.size, func(l []byte) { got = append(got, l) })
		if !slices.EqualFunc(got, x.want, func(l []byte, want string) bool { return string(l) == want }) {
			t.Errorf("Lists(%q, %d): %q, want %q", x.alphabet, x.size, got, x.want)
		}
	}
}

func TestOctets(t *testing.T) {
	list := samples.Octets()
	for i, octet := range list {
		if int(octet) != i {
			t.Errorf("Octets: the element %d is %d", i, octet)
		}
	}
	if len(list) != 256 {
		t.Errorf("Octets: %d elements", len(list))
	}
}
