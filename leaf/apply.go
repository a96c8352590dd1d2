package leaf

import (
	"slices"
	"sort"

	"varve/api"
	"varve/dot"
	"varve/op"
)

// grown is a leaf that an event changes in place; its lists are its own.
type grown struct{ api.Leaf }

// steps tells what an event does to a leaf of its type, by its operation's kind.
func steps() map[uint8]func(*grown, api.Event) {
	return map[uint8]func(*grown, api.Event){
		api.OpAdd:  (*grown).add,
		api.OpSet:  (*grown).set,
		api.OpPut:  (*grown).put,
		api.OpDrop: (*grown).drop,
		api.OpSay:  (*grown).say,
	}
}

// Apply tells the leaf behind an event.
func Apply(l api.Leaf, e api.Event) (api.Leaf, api.Errno) {
	if !May(l) || !op.MayEvent(e) {
		return api.Leaf{}, api.ErrArg
	}
	if op.Type(e.Op.Kind) != l.Type {
		return api.Leaf{}, api.ErrKind
	}
	g := grown{l}
	g.Items, g.Tombs = slices.Clone(l.Items), slices.Clone(l.Tombs)
	steps()[e.Op.Kind](&g, e)
	return g.Leaf, api.OK
}

func (g *grown) add(e api.Event) { g.N += e.Op.N }

func (g *grown) set(e api.Event) {
	// One that has none yet has the Time 0, which is ahead of all events' Times.
	if Ahead(g.Time, g.Dot, e.Time, e.Dot) {
		g.Time, g.Dot, g.Text = e.Time, e.Dot, e.Op.Text
	}
}

func (g *grown) put(e api.Event) {
	if !hasItem(g.Items, e.Dot) && !hasDot(g.Tombs, e.Dot) {
		g.insert(api.Item{Dot: e.Dot, Text: e.Op.Text})
	}
}

func (g *grown) drop(e api.Event) {
	g.Items = slices.DeleteFunc(g.Items, func(i api.Item) bool { return hasDot(e.Op.Dots, i.Dot) })
	g.Tombs = append(g.Tombs, e.Op.Dots...)
	slices.SortFunc(g.Tombs, dot.Compare)
	g.Tombs = slices.Compact(g.Tombs)
}

func (g *grown) say(e api.Event) {
	if !slices.ContainsFunc(g.Items, func(i api.Item) bool { return i.Dot == e.Dot }) {
		g.insert(api.Item{Time: e.Time, Dot: e.Dot, Text: e.Op.Text})
	}
}

// insert puts an item in its place, ahead of all that it is ahead of.
func (g *grown) insert(x api.Item) {
	at := sort.Search(len(g.Items), func(i int) bool {
		return Ahead(x.Time, x.Dot, g.Items[i].Time, g.Items[i].Dot)
	})
	g.Items = slices.Insert(g.Items, at, x)
}

// hasItem tells whether one of a set's items, which rise by their dots, has a dot.
func hasItem(l []api.Item, d api.Dot) bool {
	_, is := slices.BinarySearchFunc(l, d, func(i api.Item, d api.Dot) int { return dot.Compare(i.Dot, d) })
	return is
}

// hasDot tells whether a dot is among dots that rise.
func hasDot(l []api.Dot, d api.Dot) bool {
	_, is := slices.BinarySearchFunc(l, d, dot.Compare)
	return is
}
