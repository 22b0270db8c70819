package conf

import (
	"slices"

	"sautoir/api"
)

// Remove answers c, in that epoch, without node.
func Remove(c Conf, node int, epoch uint64) (Conf, api.Errno) {
	if !mayChange(c, node, epoch) {
		return Conf{}, api.ErrArg
	}
	next := later(c, epoch)
	if c.learns(node) {
		next.Learner = none
		return next, api.OK
	}
	place := c.Place(node)
	if place < 0 {
		return Conf{}, api.ErrNone
	}
	next.Chain = slices.Delete(next.Chain, place, place+1)
	next.Full = slices.Delete(next.Full, place, place+1)
	// Who heads a chain must have all that was acknowledged, so nobody else may come to stand first.
	if len(next.Full) == 0 || !next.Full[0] {
		return Conf{}, api.ErrState
	}
	return next, api.OK
}

// Learn answers c, in that epoch, with node as the Learner.
func Learn(c Conf, node int, epoch uint64) (Conf, api.Errno) {
	switch {
	case !mayChange(c, node, epoch):
		return Conf{}, api.ErrArg
	case c.Has(node):
		return Conf{}, api.ErrThere
	case c.Learner != none:
		return Conf{}, api.ErrState
	}
	next := later(c, epoch)
	next.Learner = node
	return next, api.OK
}

// Promote answers c, in that epoch, with the Learner, node, behind all others in the chain.
func Promote(c Conf, node int, epoch uint64) (Conf, api.Errno) {
	switch {
	case !mayChange(c, node, epoch):
		return Conf{}, api.ErrArg
	case !c.learns(node):
		return Conf{}, api.ErrNone
	}
	next := later(c, epoch)
	next.Chain, next.Full = append(next.Chain, node), append(next.Full, false)
	next.Learner = none
	return next, api.OK
}

// Mark answers c, in its own epoch, with node Full.
func Mark(c Conf, node int) (Conf, api.Errno) {
	if !Right(c) || !isServer(node) {
		return Conf{}, api.ErrArg
	}
	place := c.Place(node)
	switch {
	case place < 0:
		return Conf{}, api.ErrNone
	case c.Full[place]:
		return Conf{}, api.ErrThere
	}
	next := later(c, c.Epoch)
	next.Full[place] = true
	return next, api.OK
}

// mayChange tells whether c is one that can be changed about node, and epoch is behind its own.
func mayChange(c Conf, node int, epoch uint64) bool {
	return Right(c) && isServer(node) && epoch > c.Epoch
}

// later answers c with lists of its own, in that epoch.
func later(c Conf, epoch uint64) Conf {
	c.Epoch = epoch
	c.Chain, c.Full = slices.Clone(c.Chain), slices.Clone(c.Full)
	return c
}
