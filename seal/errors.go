package seal

import (
	"errors"
	"strconv"

	"astragal/api"
)

// names are those of the errors, from ErrArg on.
var names = [...]string{
	"arg", "domain", "short", "long", "form", "kind", "exhausted", "zero",
	"over", "nil", "handle", "full", "seed", "sum", "same",
}

// nowhere is the position of an error that has none.
const nowhere = -1

// code is an error's number as an error.
type code api.Errno

// Error returns the name.
func (c code) Error() string {
	for i, name := range names {
		if errors.Is(c, code(i+1)) {
			return name
		}
	}
	return "?"
}

// fault is a number together with a position.
type fault struct {
	code code
	at   int
}

// Error returns the name and the position.
func (f fault) Error() string {
	if f.at == nowhere {
		return f.code.Error()
	}
	return f.code.Error() + " at " + strconv.Itoa(f.at)
}

// Unwrap returns the number.
func (f fault) Unwrap() error {
	return f.code
}

// Wrap returns an error that carries e and a position, or nil for OK.
func Wrap(e api.Errno, at int) error {
	if e == api.OK {
		return nil
	}
	return fault{code: code(e), at: at}
}

// faultIn returns what Wrap made of an error that is not nil; any other error
// counts as one of form, without a position.
func faultIn(err error) (found fault) {
	other := fault{code: code(api.ErrForm), at: nowhere}
	// The methods of errors from elsewhere may panic, while no call here may.
	defer func() {
		if recover() != nil {
			found = other
		}
	}()
	if errors.As(err, &found) {
		return found
	}
	return other
}

// Errno returns the number of an error.
func Errno(err error) api.Errno {
	if err == nil {
		return api.OK
	}
	return api.Errno(faultIn(err).code)
}

// At returns the position of an error.
func At(err error) int {
	if err == nil {
		return nowhere
	}
	return faultIn(err).at
}

// Word returns the name of an error and its position, if it has one.
func Word(err error) string {
	if err == nil {
		return "ok"
	}
	return faultIn(err).Error()
}
