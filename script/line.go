package script

import (
	"strings"

	"astragal/api"
	"astragal/wide"
	"astragal/world"
)

// derived is how many numbers the line of Derive has.
const derived = 2

// fields are those of a line, in this order; numbers are any number of them,
// but for Derive exactly two.
type fields struct {
	handle, numbers, bytes, path bool
}

// fieldsOf returns the fields of the lines of a kind.
func fieldsOf(kind int) fields {
	var f fields
	switch kind {
	case world.Write, world.Text:
		f.handle = true
		fallthrough
	case world.Create, world.Unmarshal:
		f.bytes = true
	case world.Derive:
		f.numbers, f.path = true, true
	case world.Eval, world.Jump, world.Draw, world.Weigh:
		f.numbers = true
		fallthrough
	default:
		f.handle = true
	}
	return f
}

// wordOf returns the first word of the lines of a kind, if there is such a kind.
func wordOf(kind int) (string, bool) {
	words := [world.LastOp + 1]string{
		world.Create: "create", world.Write: "write", world.Sum: "sum", world.Reset: "reset",
		world.Eval: "eval", world.Text: "text", world.Next: "next", world.Jump: "jump",
		world.Draw: "draw", world.Weigh: "weigh", world.Derive: "derive", world.Marshal: "marshal",
		world.Unmarshal: "unmarshal", world.Clone: "clone", world.Close: "close",
	}
	if kind < world.Create || kind > world.LastOp {
		return "", false
	}
	return words[kind], true
}

// kindOf returns the kind of the lines that begin with a word, if there is one.
func kindOf(word string) (int, bool) {
	for kind := world.Create; kind <= world.LastOp; kind++ {
		if name, _ := wordOf(kind); name == word {
			return kind, true
		}
	}
	return 0, false
}

// number returns the decimal digits of n.
func number(n uint64) string {
	return wide.Text4(wide.Of4(n))
}

// numberOf returns the number whose digits are s.
func numberOf(s string) (uint64, bool) {
	n, e := wide.Read4(s)
	return n[0], e == api.OK && n == wide.Of4(n[0])
}

// isPath reports whether s consists of what paths are made of.
func isPath(s string) bool {
	for i := range len(s) {
		c := s[i]
		if !('a' <= c && c <= 'z' || '0' <= c && c <= '9' || c == '-' || c == '_' || c == '/') {
			return false
		}
	}
	return s != nothing
}

// Line returns the line of an operation.
func Line(o world.Op) (string, api.Errno) {
	word, ok := wordOf(o.Kind)
	if !ok {
		return "", api.ErrKind
	}
	f := fieldsOf(o.Kind)
	switch {
	case !f.handle && o.H != 0,
		!f.numbers && len(o.A) > 0,
		!f.bytes && len(o.B) > 0,
		!f.path && o.S != "",
		f.path && len(o.A) != derived:
		return "", api.ErrArg
	case !isPath(o.S):
		return "", api.ErrForm
	}
	parts := []string{word}
	if f.handle {
		parts = append(parts, number(o.H))
	}
	for _, n := range o.A {
		parts = append(parts, number(n))
	}
	if f.bytes {
		parts = append(parts, Bytes(o.B))
	}
	if f.path {
		parts = append(parts, pathField(o.S))
	}
	return strings.Join(parts, " "), api.OK
}

// pathField returns what stands for a path.
func pathField(s string) string {
	if s == "" {
		return nothing
	}
	return s
}

// Op returns the operation whose line this is.
func Op(line string) (world.Op, api.Errno) {
	parts := strings.Split(line, " ")
	kind, ok := kindOf(parts[0])
	if !ok {
		return world.Op{}, api.ErrKind
	}
	o, ok := operation(kind, parts[1:])
	if !ok {
		return world.Op{}, api.ErrForm
	}
	return o, api.OK
}

// operation returns the operation that has these fields.
func operation(kind int, parts []string) (world.Op, bool) {
	o, f := world.Op{Kind: kind}, fieldsOf(kind)
	behind := 0 // the fields behind the numbers
	if f.bytes || f.path {
		behind = 1
	}
	var ok bool
	if f.handle {
		if len(parts) == 0 {
			return world.Op{}, false
		}
		if o.H, ok = numberOf(parts[0]); !ok {
			return world.Op{}, false
		}
		parts = parts[1:]
	}
	count := len(parts) - behind
	if count < 0 || !f.numbers && count > 0 || f.path && count != derived {
		return world.Op{}, false
	}
	for _, part := range parts[:count] {
		n, ok := numberOf(part)
		if !ok {
			return world.Op{}, false
		}
		o.A = append(o.A, n)
	}
	if f.bytes {
		if o.B, ok = Unbytes(parts[count]); !ok {
			return world.Op{}, false
		}
	}
	if f.path {
		if o.S, ok = pathOf(parts[count]); !ok {
			return world.Op{}, false
		}
	}
	return o, true
}

// pathOf returns the path for which a field stands.
func pathOf(field string) (string, bool) {
	if field == nothing {
		return "", true
	}
	return field, field != "" && isPath(field)
}
