package parse

import (
	"quittance/api"
)

// tag is a tag, and the places of those pushtags that have it on; none, if it is off.
type tag struct {
	name   string
	places []api.Pos
}

// tags has the tags that are on in the order in which they were put on, and, until there are too many of them, those that are off again, so that taking one off moves no others.
type tags struct {
	rows []tag
	row  map[string]int // of those that are on
}

// noTags answers that none is on.
func noTags() tags {
	return tags{row: map[string]int{}}
}

// put has a tag on, by the pushtag at that place.
func (t *tags) put(name string, place api.Pos) {
	row, isOn := t.row[name]
	if !isOn {
		row = len(t.rows)
		t.row[name] = row
		t.rows = append(t.rows, tag{name: name})
	}
	t.rows[row].places = append(t.rows[row].places, place)
}

// take lets the last pushtag of that name go, and tells whether there is one.
func (t *tags) take(name string) bool {
	row, isOn := t.row[name]
	if !isOn {
		return false
	}
	places := t.rows[row].places
	t.rows[row].places = places[:len(places)-1]
	if len(places) == 1 {
		delete(t.row, name)
		t.shrink()
	}
	return true
}

// shrink lets those go that are off, if they are more than those that are on.
func (t *tags) shrink() {
	if len(t.rows) <= 2*len(t.row) {
		return
	}
	var left []tag
	for _, one := range t.rows {
		if len(one.places) > 0 {
			t.row[one.name] = len(left)
			left = append(left, one)
		}
	}
	t.rows = left
}

// places answers where the pushtags stand of all that are on.
func (t *tags) places() []api.Pos {
	var all []api.Pos
	for _, one := range t.rows {
		all = append(all, one.places...)
	}
	return all
}

// behind answers a transaction's own tags, and behind them those that are on, each once.
func (t *tags) behind(own []string) []string {
	var all []string
	seen := map[string]struct{}{}
	add := func(name string) {
		_, again := seen[name]
		if !again {
			seen[name] = struct{}{}
			all = append(all, name)
		}
	}
	for _, name := range own {
		add(name)
	}
	for _, one := range t.rows {
		if len(one.places) > 0 {
			add(one.name)
		}
	}
	return all
}
