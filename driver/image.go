package driver

import (
	"patina/api"
	"patina/asm"
	"patina/color"
	"patina/elf"
	"patina/emit"
	"patina/isel"
	"patina/opt"
	"patina/rt"
)

// imageOf is a program's image.
func imageOf(m api.Mir) ([]byte, error) {
	short, e := opt.Make(m)
	if err := limited("opt", e); err != nil {
		return nil, err
	}
	l, e := isel.Make(short)
	if err := limited("isel", e); err != nil {
		return nil, err
	}
	text, err := textOf(withinStack(l, m.Items))
	if err != nil {
		return nil, err
	}
	code, e, _ := asm.Assemble(text, rt.Data(), rt.TextBase, rt.DataBase)
	if err := limited("asm", e); err != nil {
		return nil, err
	}
	i, e := rt.Image(code)
	if err := limited("rt", e); err != nil {
		return nil, err
	}
	b, e := elf.Write(i)
	return b, limited("elf", e)
}

// textOf is the runtime, and behind it a program of LIR. (Its functions are emitted one by one: those of a source and what isel adds may be more than emit.Program takes.)
func textOf(l []api.LFn) ([]api.Item, error) {
	text := rt.Text()
	for _, f := range l {
		places, e := color.Color(f, color.Colors)
		if err := limited("color", e); err != nil {
			return nil, err
		}
		items, e := emit.Function(f, places)
		if err := limited("emit", e); err != nil {
			return nil, err
		}
		text = append(text, items...)
	}
	return text, nil
}
