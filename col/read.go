package col

import (
	"millstream/api"
	"millstream/cell"
	"millstream/dict"
	"millstream/leb"
	"millstream/mask"
)

// source is bytes that begin with those of cells of one kind, none of them nothing.
type source []byte

// reading is how so many cells of a kind are read.
func reading(kind int) func(b source, n int) (l []api.Cell, size int, e api.Errno) {
	return [manyKinds]func(b source, n int) (l []api.Cell, size int, e api.Errno){
		api.TBool:   source.bools,
		api.TInt32:  source.int32s,
		api.TInt64:  source.int64s,
		api.TString: source.texts,
		api.TBytes:  source.runs,
	}[kind]
}

func (b source) bools(n int) (l []api.Cell, size int, e api.Errno) {
	are, size, e := mask.Unpack(b, n)
	if e != api.OK {
		return nil, 0, e
	}
	l = make([]api.Cell, n)
	for i, is := range are {
		if is {
			l[i].N = 1
		}
	}
	return l, size, api.OK
}

func (b source) int32s(n int) (l []api.Cell, size int, e api.Errno) {
	return b.each(n, source.takeInt32)
}

func (b source) int64s(n int) (l []api.Cell, size int, e api.Errno) {
	return b.each(n, source.takeInt64)
}

func (b source) texts(n int) (l []api.Cell, size int, e api.Errno) {
	texts, size, e := dict.Get(b, n, api.MaxCell)
	if e != api.OK {
		return nil, 0, e
	}
	// A text is looked at once: few bytes can say that a long one stands in very many places.
	unlike, _ := dict.Split(texts)
	for _, text := range unlike {
		if e := cell.Check(api.Type{Kind: api.TString}, api.Cell{S: text}); e != api.OK {
			return nil, 0, e
		}
	}
	l = make([]api.Cell, n)
	for i, text := range texts {
		l[i].S = text
	}
	return l, size, api.OK
}

func (b source) runs(n int) (l []api.Cell, size int, e api.Errno) {
	return b.each(n, source.takeRun)
}

// each reads so many cells one by one, as one is taken.
func (b source) each(n int, take func(b source) (c api.Cell, size int, e api.Errno)) (l []api.Cell, size int, e api.Errno) {
	for range n {
		c, more, e := take(b[size:])
		if e != api.OK {
			return nil, 0, e
		}
		l = append(l, c)
		size += more
	}
	return l, size, api.OK
}

func (b source) takeInt32() (c api.Cell, size int, e api.Errno) {
	c, size, e = b.takeInt64()
	if e == api.OK {
		e = cell.Check(api.Type{Kind: api.TInt32}, c)
	}
	if e != api.OK {
		return api.Cell{}, 0, e
	}
	return c, size, api.OK
}

func (b source) takeInt64() (c api.Cell, size int, e api.Errno) {
	n, size, e := leb.GetInt(b)
	return api.Cell{N: n}, size, e
}

// takeRun reads how many bytes a cell has, and they.
func (b source) takeRun() (c api.Cell, size int, e api.Errno) {
	many, size, e := leb.Get(b)
	switch {
	case e != api.OK:
		return api.Cell{}, 0, e
	case many > api.MaxCell:
		return api.Cell{}, 0, api.ErrLimit
	case int(many) > len(b)-size:
		return api.Cell{}, 0, api.ErrTrunc
	}
	end := size + int(many)
	return api.Cell{S: string(b[size:end])}, end, api.OK
}
