package mirtest

import "patina/api"

// Items are those of made MIR: types of each form, among them one whose payloads lie in one another's words, and functions of them.
func Items() api.Items {
	it := PlainItems()
	it.Fns = []api.Fn{
		function(0, "f", "&S", "i64", "&S", "Box<S>"),
		function(1, "g", "Box<i64>", "Box<i64>"),
		function(2, "sum", "i64", "i64", "i64"),
		function(3, "main", "()"),
		function(4, "h", "bool", "&mut P", "E", "&i64"),
		function(5, "m", "&mut X", "&mut X", "L"),
	}
	return it
}

// PlainItems are the same types, and functions without references.
func PlainItems() api.Items {
	return api.Items{
		Structs: []api.Struct{
			{Name: "S", Fields: fields("i64", "Box<i64>")},
			{Name: "N"},
			{Name: "P", Fields: fields("S", "E", "()", "Box<L>")},
		},
		Enums: []api.Enum{
			{Name: "E", Variants: fields("", "i64", "S")},
			{Name: "L", Variants: fields("", "Box<L>")},
			{Name: "X", Variants: fields("i64", "Box<i64>", "bool", "Box<S>")},
		},
		Fns: []api.Fn{
			function(0, "main", "()"),
			function(1, "g", "Box<i64>", "Box<i64>"),
			function(2, "sum", "i64", "i64", "i64"),
			function(3, "u", "P", "E", "Box<L>", "()"),
			function(4, "v", "bool", "P", "X"),
		},
	}
}

// fields are fields, variants or parameters of these types.
func fields(types ...string) []api.Field {
	var l []api.Field
	for k, t := range types {
		l = append(l, api.Field{Name: "abcdefghijklmnop"[k : k+1], Type: t})
	}
	return l
}

func function(node int, name, ret string, params ...string) api.Fn {
	return api.Fn{Name: name, Params: fields(params...), Muts: make([]bool, len(params)), Ret: ret, Node: node}
}
