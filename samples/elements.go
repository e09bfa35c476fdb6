package samples

import (
	"bytes"
	"slices"

	"vidimus/api"
)

// Tags lists tags, valid and other ones, that look like those of a SEQUENCE and a SET; these come first.
func Tags() []api.Tag {
	return []api.Tag{
		{Constructed: true, Number: api.TagSequence},
		{Constructed: true, Number: api.TagSet},
		{Class: api.Application, Constructed: true, Number: api.TagSequence},
		{Class: api.Context, Constructed: true, Number: api.TagSequence},
		{Class: api.Context, Constructed: true, Number: api.TagSet},
		{Class: 200, Constructed: true, Number: api.TagSequence},
		{Constructed: true, Number: 0},
		{Constructed: true, Number: api.TagOID},
		{Number: api.TagSequence},
		{Number: api.TagSet},
		{Number: api.TagOID},
		{},
	}
}

// Leaf returns a primitive element with a universal tag.
func Leaf(number uint32, octets ...byte) api.Element {
	return api.Element{Tag: api.Tag{Number: number}, Bytes: octets}
}

// Seq returns a SEQUENCE.
func Seq(subs ...api.Element) api.Element {
	return api.Element{Tag: api.Tag{Constructed: true, Number: api.TagSequence}, Subs: subs}
}

// Set returns a SET.
func Set(subs ...api.Element) api.Element {
	return api.Element{Tag: api.Tag{Constructed: true, Number: api.TagSet}, Subs: subs}
}

// Sub returns Subs[i], or the zero element if there is none.
func Sub(e api.Element, i int) api.Element {
	if i < len(e.Subs) {
		return e.Subs[i]
	}
	return api.Element{}
}

// Nest returns an element in n SEQUENCEs.
func Nest(e api.Element, n int) api.Element {
	for range n {
		e = Seq(e)
	}
	return e
}

// Repeat returns a SEQUENCE with n times the same element, and more.
func Repeat(e api.Element, n int, more ...api.Element) api.Element {
	return Seq(append(slices.Repeat([]api.Element{e}, n), more...)...)
}

// Cyclic lists SEQUENCEs that contain themselves.
func Cyclic() []api.Element {
	one := make([]api.Element, 1)
	one[0] = Seq(one...)
	three := make([]api.Element, 3)
	for i := range three {
		three[i] = Seq(three...)
	}
	late := []api.Element{Leaf(api.TagNull), Leaf(api.TagInteger, 7), {}}
	late[2] = Seq(late...)
	return []api.Element{one[0], three[1], late[2], Seq(Leaf(api.TagNull), one[0])}
}

// Equal compares elements as the document does: nil and empty slices are equal.
func Equal(a, b api.Element) bool {
	return a.Tag == b.Tag && bytes.Equal(a.Bytes, b.Bytes) && slices.EqualFunc(a.Subs, b.Subs, Equal)
}

// IsZero reports whether an element is the zero value.
func IsZero(e api.Element) bool { return Equal(e, api.Element{}) }

// Spoil changes all memory that an element refers to; parts that share memory may be changed more than once, but never back.
func Spoil(e api.Element) {
	for i := range e.Bytes {
		e.Bytes[i]++
	}
	for i, sub := range e.Subs {
		Spoil(sub)
		e.Subs[i] = api.Element{Tag: api.Tag{Class: 9}} // no other element here has this tag
	}
}

// HasSpare reports whether a slice of an element has spare capacity.
func HasSpare(e api.Element) bool {
	return cap(e.Bytes) > len(e.Bytes) || cap(e.Subs) > len(e.Subs) || slices.ContainsFunc(e.Subs, HasSpare)
}
