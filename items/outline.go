package items

import (
	"patina/api"
	"patina/tree"
)

// part is a field, a variant or a parameter.
type part struct {
	name  string
	types []chain // its type; of a variant without a payload none
	mut   bool
	node  int
}

// entry is an item in the form that trees and lists of items share.
type entry struct {
	kind   int // KStruct, KEnum or KFn
	name   string
	parts  []part
	result chain // of a function
	node   int
}

// typeTable are the structs' and enums' names, and their sizes, each at its entry's place.
type typeTable struct {
	names
	sizes []size
}

// fnTable are the functions' names.
type fnTable struct {
	names
}

// outline are items, one behind the other; its tables are filled as its steps go.
type outline struct {
	entries []entry
	types   typeTable
	fns     fnTable
}

func newOutline(entries []entry) *outline {
	return &outline{
		entries: entries,
		types:   typeTable{names: newNames(), sizes: make([]size, len(entries))},
		fns:     fnTable{names: newNames("print", "read", "panic")},
	}
}

// ofTree is the outline of a right tree, in the order of its nodes.
func ofTree(nodes []api.Node) *outline {
	var l []entry
	for k, n := range nodes {
		e := entry{kind: n.Kind, name: n.Name, node: k}
		kids := n.Kids
		switch n.Kind {
		case api.KFn:
			kids = n.Kids[:n.Num]
			e.result = chainOf(nodes, n.Kids[n.Num])
			fallthrough
		case api.KStruct, api.KEnum:
			e.parts = partsOf(nodes, kids)
			l = append(l, e)
		}
	}
	return newOutline(l)
}

func partsOf(nodes []api.Node, kids []int) []part {
	var l []part
	for _, k := range kids {
		n := nodes[k]
		p := part{name: n.Name, mut: n.Num == 1, node: k}
		for _, kid := range n.Kids {
			p.types = append(p.types, chainOf(nodes, kid))
		}
		l = append(l, p)
	}
	return l
}

// ofItems is the outline of any items.
func ofItems(it api.Items) *outline {
	var l []entry
	for _, s := range it.Structs {
		l = append(l, entry{kind: api.KStruct, name: s.Name, parts: partsFrom(s.Fields, false)})
	}
	for _, e := range it.Enums {
		l = append(l, entry{kind: api.KEnum, name: e.Name, parts: partsFrom(e.Variants, true)})
	}
	for _, f := range it.Fns {
		l = append(l, entry{kind: api.KFn, name: f.Name, parts: partsFrom(f.Params, false), result: chainFrom(f.Ret)})
	}
	return newOutline(l)
}

// partsFrom are the parts of fields; bare ones may be without a type.
func partsFrom(fields []api.Field, bare bool) []part {
	var l []part
	for _, f := range fields {
		p := part{name: f.Name}
		if !bare || f.Type != "" {
			p.types = []chain{chainFrom(f.Type)}
		}
		l = append(l, p)
	}
	return l
}

// items are the outline as items.
func (o *outline) items() api.Items {
	var it api.Items
	for _, e := range o.entries {
		fields, muts := e.fields()
		switch e.kind {
		case api.KStruct:
			it.Structs = append(it.Structs, api.Struct{Name: e.name, Fields: fields})
		case api.KEnum:
			it.Enums = append(it.Enums, api.Enum{Name: e.name, Variants: fields})
		case api.KFn:
			it.Fns = append(it.Fns, api.Fn{Name: e.name, Params: fields, Muts: muts, Ret: e.result.text(), Node: e.node})
		}
	}
	return it
}

// fields are the item's parts, and which of them are mut.
func (e entry) fields() ([]api.Field, []bool) {
	var fields []api.Field
	var muts []bool
	for _, p := range e.parts {
		f := api.Field{Name: p.name}
		for _, c := range p.types {
			f.Type = c.text()
		}
		fields = append(fields, f)
		muts = append(muts, p.mut)
	}
	return fields, muts
}

// named tells whether all names are names: a tree with them is right then, and else it is not.
func (o *outline) named() bool {
	var nodes []api.Node
	put := func(n api.Node) int {
		nodes = append(nodes, n)
		return len(nodes) - 1
	}
	crate := api.Node{Kind: api.KCrate}
	for _, e := range o.entries {
		item := api.Node{Kind: api.KStruct, Name: e.name}
		for _, p := range e.parts {
			unit := put(api.Node{Kind: api.KTyUnit})
			item.Kids = append(item.Kids, put(api.Node{Kind: api.KField, Name: p.name, Kids: []int{unit}}))
		}
		crate.Kids = append(crate.Kids, put(item))
	}
	put(crate)
	return tree.Check(api.Tree{Nodes: nodes}) == api.OK
}
