package server

import (
	"slices"

	"gyre/api"
	"gyre/session"
	"gyre/snap"
	"gyre/wire"
)

// client is a player, as the server knows it.
type client struct {
	Player
	owner   int
	session *session.Session
	seen    int    // the newest step that it has seen, as it says
	kept    []kept // what it saw, by steps, as long as that may still be a base
}

// kept is what was seen at a step.
type kept struct {
	step int
	view snap.View
}

// newClient is a player that has seen nothing yet. ErrRange: where it looks from, and how far; what session.New says.
func newClient(p Player, owner int, l session.Limit) (*client, error) {
	if !p.right() {
		return nil, api.ErrRange
	}
	s, err := session.New(p.Token, l)
	if err != nil {
		return nil, err
	}
	return &client{Player: p, owner: owner, session: s}, nil
}

// tell is the datagrams of a step and what is seen then.
func (c *client) tell(step int, view snap.View) [][]byte {
	base := c.base()
	c.keep(kept{step, view})
	return datagrams(step, base, view)
}

// base is what the client has seen last, or nothing, of step 0, if that is not kept: then it is too old.
func (c *client) base() kept {
	i := slices.IndexFunc(c.kept, func(k kept) bool { return k.step == c.seen })
	if i < 0 {
		return kept{}
	}
	return c.kept[i]
}

// keep keeps what is seen now, and of what was seen ahead just what the next step may be told by: Ring - 1 steps, none that is older than what the client has seen.
func (c *client) keep(now kept) {
	c.kept = append(c.kept, now)
	c.kept = slices.DeleteFunc(c.kept, func(k kept) bool {
		return k.step < c.seen || k.step <= now.step-(api.Ring-1)
	})
}

// datagrams tell a view by its base: none, if that can't be told.
func datagrams(step int, base kept, view snap.View) [][]byte {
	changes, err := snap.Delta(base.view, view)
	if err != nil {
		return nil
	}
	pieces, err := wire.Cut(step, base.step, changes)
	if err != nil {
		return nil
	}
	var l [][]byte
	for _, p := range pieces {
		b, err := wire.Tell(p)
		if err != nil {
			return nil
		}
		l = append(l, b)
	}
	return l
}
