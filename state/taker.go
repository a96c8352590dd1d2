package state

import (
	"math"

	"varve/api"
	"varve/code"
)

// taker takes trees and their parts off the reader that it embeds. Whether they may be is not asked of the parts: it is told once all is read.
type taker struct{ *code.Reader }

// tree takes a tree; ErrForm at once, if it has nodes more than so many names deep.
func (t taker) tree(most int) api.Tree {
	return list(t, func() api.Node {
		if most == 0 {
			t.Fail(api.ErrForm)
			return api.Node{}
		}
		return api.Node{Name: t.Text(api.MaxName), Leaves: list(t, t.leaf), Below: t.tree(most - 1)}
	})
}

func (t taker) leaf() api.Leaf {
	return api.Leaf{
		Type:  uint8(t.upTo(math.MaxUint8)),
		N:     t.Int(),
		Time:  t.Num(),
		Dot:   t.dot(),
		Text:  t.Text(api.MaxText),
		Items: list(t, t.item),
		Tombs: list(t, t.dot),
	}
}

func (t taker) item() api.Item {
	return api.Item{Time: t.Num(), Dot: t.dot(), Text: t.Text(api.MaxText)}
}

func (t taker) dot() api.Dot {
	a := api.Actor{Rep: uint8(t.upTo(math.MaxUint8)), Inc: uint32(t.upTo(math.MaxUint32))}
	return api.Dot{Actor: a, Seq: t.Num()}
}

// upTo takes a number; most, if it is above that. No type, Rep or Inc may be the most that it holds, so a number that is cut down to that is refused like the one that stood there: 0 would not be, as many a leaf's dot is nought.
func (t taker) upTo(most uint64) uint64 { return min(t.Num(), most) }

// list takes how many there are, and each of them. It ends at the first error, as there may be fewer bytes than there are to be of them.
func list[T any](t taker, one func() T) []T {
	var l []T
	for n := t.Num(); n > 0 && t.Err() == api.OK; n-- {
		l = append(l, one())
	}
	return l
}
