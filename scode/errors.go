package scode

import (
	"errors"

	"astragal/api"
	"astragal/seal"
)

// What may be wrong with bytes, whatever they say.
var (
	errShort = errors.New("short")
	errForm  = errors.New("form")
	errKind  = errors.New("kind")
)

// refusal is an error of a layer below.
type refusal struct {
	e api.Errno
}

// Error returns the name of the error.
func (r refusal) Error() string {
	return seal.Word(seal.Wrap(r.e, -1))
}

// inPart says in which part an error is.
type inPart struct {
	part string
	err  error
}

// Error returns the part and the error.
func (p inPart) Error() string {
	return p.part + ": " + p.err.Error()
}

// Unwrap returns the error.
func (p inPart) Unwrap() error {
	return p.err
}

// number returns the number of an error of this package.
func number(err error) api.Errno {
	var below refusal
	switch {
	case errors.As(err, &below):
		return below.e
	case errors.Is(err, errShort):
		return api.ErrShort
	case errors.Is(err, errKind):
		return api.ErrKind
	}
	return api.ErrForm
}
