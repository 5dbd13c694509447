package driver

import (
	"patina/api"
	"patina/build"
	"patina/check"
	"patina/cover"
	"patina/drops"
	"patina/loans"
	"patina/moves"
	"patina/parse"
)

// typed is a source's typed tree whose matches cover all.
func typed(source string) (api.Typed, error) {
	tree, d := parse.Parse(source)
	if err := wrong("parse", d); err != nil {
		return api.Typed{}, err
	}
	u, d := check.Of(tree)
	if err := wrong("check", d); err != nil {
		return api.Typed{}, err
	}
	d, _ = cover.Check(u) // the typed tree is right
	return u, wrong("cover", d)
}

// front is a source's program with which nothing is wrong.
func front(source string) (api.Mir, error) {
	u, err := typed(source)
	if err != nil {
		return api.Mir{}, err
	}
	built, d := build.Of(u)
	if err := wrong("build", d); err != nil {
		return api.Mir{}, err
	}
	if err := wrong("moves", moves.Check(built)); err != nil {
		return api.Mir{}, err
	}
	made, e := drops.Make(built)
	if err := failed("drops", e); err != nil {
		return api.Mir{}, err
	}
	return made, wrong("loans", loans.Check(made))
}

// compiled is a source's image.
func compiled(source string) ([]byte, error) {
	m, err := front(source)
	if err != nil {
		return nil, err
	}
	return imageOf(m)
}
