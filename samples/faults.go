package samples

import (
	"slices"

	"vidimus/api"
	"vidimus/fields"
)

// Rule is a condition that an input may break, and the fault that it has then.
type Rule struct {
	broken bool
	fault  fields.Fault
}

// If returns the rule that an input breaks if a condition is true.
func If(broken bool, err api.Errno, path ...int) Rule {
	return Rule{broken, fields.Fault{Path: path, E: err}}
}

// FirstFault returns the fault of the first rule that is broken.
func FirstFault(rules ...Rule) fields.Fault {
	for _, r := range rules {
		if r.broken {
			return r.fault
		}
	}
	return fields.Fault{}
}

// IsFault reports whether a fault has this error and this path.
func IsFault(f fields.Fault, err api.Errno, path ...int) bool {
	return f.E == err && slices.Equal(f.Path, path)
}

// PathFlaw returns what is wrong with the memory of the path that read returns, which is not empty; nothing if it is new, and exactly used.
func PathFlaw(read func() fields.Fault) string {
	f, g := read(), read()
	want := slices.Clone(g.Path)
	if len(want) == 0 {
		return "the path is empty"
	}
	if cap(f.Path) > len(f.Path) {
		return "the path has spare capacity"
	}
	f.Path[0] = -99
	if !slices.Equal(g.Path, want) || !slices.Equal(read().Path, want) {
		return "the path shares memory with another one"
	}
	return ""
}
