package tape

import (
	"millstream/api"
	"millstream/utf"
)

// Null is the tape of nothing.
func Null() []api.Node {
	return one(api.Node{Kind: api.KNull})
}

// Bool is the tape of a bool.
func Bool(b bool) []api.Node {
	if b {
		return one(api.Node{Kind: api.KTrue})
	}
	return one(api.Node{Kind: api.KFalse})
}

// Num is the tape of a number.
func Num(n int64) []api.Node {
	return one(api.Node{Kind: api.KNum, N: n})
}

// Str is the tape of a text; nothing, if that is no UTF-8.
func Str(s string) []api.Node {
	if !utf.Valid(s) {
		return nil
	}
	return one(api.Node{Kind: api.KStr, S: s})
}

// List is the list of parts.
func List(l [][]api.Node) ([]api.Node, api.Errno) {
	return join(api.KList, make([]string, len(l)), l)
}

// Obj is the object of members.
func Obj(keys []string, l [][]api.Node) ([]api.Node, api.Errno) {
	if len(keys) != len(l) {
		return nil, api.ErrArg
	}
	return join(api.KObj, keys, l)
}

// one is the tape of a value without parts.
func one(node api.Node) []api.Node {
	node.Size = 1
	return []api.Node{node}
}

// join puts parts, with a key each, behind a root.
func join(kind int, keys []string, l [][]api.Node) ([]api.Node, api.Errno) {
	size, deep := 1, 1
	mayHave := keysOf(kind)
	for i, part := range l {
		if e := mayHave(keys[i]); e != api.OK {
			return nil, e
		}
		partDeep, e := look(part)
		if e != api.OK {
			return nil, e
		}
		size += len(part)
		deep = max(deep, partDeep+1)
	}
	if size > api.MaxNodes {
		return nil, api.ErrLimit
	}
	if deep > api.MaxDeep {
		return nil, api.ErrDeep
	}
	t := make([]api.Node, 1, size)
	t[0] = api.Node{Kind: kind, Size: size}
	for i, part := range l {
		at := len(t)
		t = append(t, part...)
		t[at].Key = keys[i]
	}
	return t, api.OK
}
