package parse

import "patina/api"

// fault is what is wrong with a source.
type fault struct {
	diag api.Diag
}

func (f *fault) Error() string { return f.diag.Code.Error() }

// inside is an error that came up out of a deep thing.
type inside struct {
	thing string
	err   error
}

func (i *inside) Error() string { return i.thing + ": " + i.err.Error() }

func (i *inside) Unwrap() error { return i.err }
