package driver

import (
	"errors"

	"patina/api"
)

// errLimit is what errors of all that makes the image are: they tell no more than that there is too much of the source.
var errLimit = errors.New("too much for an image")

// found is a diagnostic on its way up.
type found struct {
	api.Diag
}

func (f *found) Error() string { return f.Code.Error() }

// inPass is what a pass told, on its way up.
type inPass struct {
	pass string
	err  error
}

func (p *inPass) Error() string { return p.pass + ": " + p.err.Error() }

func (p *inPass) Unwrap() error { return p.err }

// wrong is a pass's diagnostic as an error; nil: it is none.
func wrong(pass string, d api.Diag) error {
	if d.Code == api.OK {
		return nil
	}
	return &inPass{pass, &found{d}}
}

// failed is the error of a pass that tells no place; nil: it is none.
func failed(pass string, e api.Errno) error {
	if e == api.OK {
		return nil
	}
	return &inPass{pass, e}
}

// atLimit is the error of a part of what makes the image.
type atLimit struct {
	inPass
}

func (a *atLimit) Unwrap() []error { return []error{errLimit, a.err} }

// limited is such an error; nil: it is none.
func limited(part string, e api.Errno) error {
	if e == api.OK {
		return nil
	}
	return &atLimit{inPass{part, e}}
}

// diagOf is what an error tells of a source: of the whole source, where no place came up with it.
func diagOf(err error, source string) api.Diag {
	var f *found
	if errors.As(err, &f) {
		return f.Diag
	}
	d := api.Diag{To: len(source)}
	if errors.Is(err, errLimit) {
		d.Code = api.ErrLong
	} else {
		errors.As(err, &d.Code)
	}
	return d
}
