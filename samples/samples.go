// Package samples lists inputs, makes and compares elements and faults, and checks that results are new memory, for the tests of the other packages; the program itself does not call it.
package samples

// Lists calls use with all lists of up to size elements of an alphabet; use may keep them, but not change them.
func Lists[T any](alphabet []T, size int, use func(l []T)) {
	var extend func(l []T)
	extend = func(l []T) {
		use(l)
		if len(l) >= size {
			return
		}
		for _, x := range alphabet {
			extend(append(l[:len(l):len(l)], x))
		}
	}
	extend(nil)
}

// Octets lists all octets.
func Octets() []byte {
	list := make([]byte, 256)
	for octet := range list {
		list[octet] = byte(octet)
	}
	return list
}
