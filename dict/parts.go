package dict

import "millstream/api"

// dictionary is texts, each once, and the place at which each of them stands.
type dictionary struct {
	texts  []string
	places map[string]int
}

// newDictionary is one without texts.
func newDictionary() *dictionary {
	return &dictionary{places: map[string]int{}}
}

// place is where a text stands; one that is new is put behind the others.
func (d *dictionary) place(text string) (place int, isNew bool) {
	place, isThere := d.places[text]
	if isThere {
		return place, false
	}
	place = len(d.texts)
	d.places[text] = place
	d.texts = append(d.texts, text)
	return place, true
}

// list grows, number by number, to the one whose dictionary this is.
type list struct {
	dictionary []string
	used       int // how many texts were used: they are the first ones, for a text is first used behind those ahead of it
	texts      []string
}

// add puts the text of a number behind the others, if it may be the next one.
func (l *list) add(number uint64) bool {
	if number >= uint64(len(l.dictionary)) || number > uint64(l.used) {
		return false
	}
	if number == uint64(l.used) {
		l.used++
	}
	l.texts = append(l.texts, l.dictionary[number])
	return true
}

// whole is the list, if all texts of the dictionary were used.
func (l *list) whole() ([]string, api.Errno) {
	if l.used < len(l.dictionary) {
		return nil, api.ErrDict
	}
	return l.texts, api.OK
}
