package config

import (
	"errors"

	"astragal/api"
	"astragal/seal"
)

// refusal is an error's number as an error.
type refusal struct {
	e api.Errno
}

// Error returns the name of the error.
func (r refusal) Error() string {
	return seal.Word(seal.Wrap(r.e, -1))
}

// inPart says in which part of an encoding an error is.
type inPart struct {
	part string
	err  error
}

// in wraps the number of an error in a part.
func in(part string, e api.Errno) error {
	return inPart{part: part, err: refusal{e: e}}
}

// Error returns the part and the error.
func (p inPart) Error() string {
	return p.part + ": " + p.err.Error()
}

// Unwrap returns the error.
func (p inPart) Unwrap() error {
	return p.err
}

// number returns the number of an error of this package.
func number(err error) api.Errno {
	var r refusal
	if errors.As(err, &r) {
		return r.e
	}
	return api.ErrForm
}
