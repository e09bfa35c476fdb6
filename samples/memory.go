package samples

import (
	"bytes"
	"slices"

	"vidimus/api"
)

// Clone returns an element in new memory, which is exactly used.
func Clone(e api.Element) api.Element {
	c := api.Element{Tag: e.Tag, Bytes: slices.Clip(bytes.Clone(e.Bytes))}
	for _, sub := range e.Subs {
		c.Subs = append(c.Subs, Clone(sub))
	}
	c.Subs = slices.Clip(c.Subs)
	return c
}

// MemoryFlaw returns what is wrong with the memory of what make returns for e; nothing if it is new, and exactly used, and e is neither changed nor kept.
func MemoryFlaw(e api.Element, make func(e api.Element) api.Element) string {
	one := Clone(e)
	first, second, third := make(one), make(one), make(one)
	want := Clone(first)
	if HasSpare(first) {
		return "spare capacity"
	}
	Spoil(first)
	if !Equal(second, want) || !Equal(one, e) {
		return "it shares memory with another result or with its argument, or changes that"
	}
	Spoil(one)
	if !Equal(second, want) {
		return "it keeps its argument"
	}
	for i := range third.Subs {
		Spoil(third.Subs[i])
		if !slices.EqualFunc(third.Subs[i+1:], want.Subs[i+1:], Equal) {
			return "its parts share memory"
		}
	}
	return ""
}
