package col

import (
	"slices"

	"millstream/api"
	"millstream/dict"
	"millstream/leb"
	"millstream/mask"
)

// manyKinds is how many places an array by kinds has.
const manyKinds = api.TBytes + 1

// cells are of one type. What writes them by their kind takes such alone as are not nothing.
type cells []api.Cell

// writing is how a kind's cells are written.
func writing(kind int) func(l cells) []byte {
	return [manyKinds]func(l cells) []byte{
		api.TBool:   cells.bools,
		api.TInt32:  cells.wholes,
		api.TInt64:  cells.wholes,
		api.TString: cells.texts,
		api.TBytes:  cells.runs,
	}[kind]
}

func (l cells) areThere() []bool {
	are := make([]bool, len(l))
	for i, c := range l {
		are[i] = !c.Null
	}
	return are
}

func (l cells) there() cells {
	return slices.DeleteFunc(slices.Clone(l), func(c api.Cell) bool { return c.Null })
}

func (l cells) bools() []byte {
	are := make([]bool, len(l))
	for i, c := range l {
		are[i] = c.N == 1
	}
	return mask.Pack(are)
}

func (l cells) wholes() []byte {
	var b []byte
	for _, c := range l {
		// Each number is put for itself: leb copies all that it is to put one behind.
		b = append(b, leb.PutInt(nil, c.N)...)
	}
	return b
}

func (l cells) texts() []byte {
	texts := make([]string, len(l))
	for i, c := range l {
		texts[i] = c.S
	}
	return dict.Put(nil, texts)
}

func (l cells) runs() []byte {
	var b []byte
	for _, c := range l {
		b = append(b, leb.Put(nil, uint64(len(c.S)))...)
		b = append(b, c.S...)
	}
	return b
}
