package client

import (
	"lethe/api"
	"lethe/keyring"
	"lethe/outbox"
	"lethe/session"
	"lethe/store"
)

// Identity: its public key.
func (c *Client) Identity() (api.Key, error) {
	own, err := asked(c, "Identity", keyring.Identity)
	return own.Pub, err
}

// Replay: the packets that aren't acknowledged, by serial.
func (c *Client) Replay(peer string) ([]api.Mail, error) {
	return asked(c, "Replay", func(t *store.Tx) ([]api.Mail, api.Errno) {
		if _, e := session.Tell(t, peer); e != api.OK {
			return nil, e
		}
		return outbox.List(t, peer)
	})
}

// Peers: their names, in order.
func (c *Client) Peers() ([]string, error) {
	return asked(c, "Peers", session.Peers)
}

// Tell: of a session.
func (c *Client) Tell(peer string) (api.Status, error) {
	return asked(c, "Tell", func(t *store.Tx) (api.Status, api.Errno) { return session.Tell(t, peer) })
}

// Prekeys: the numbers of those that are there.
func (c *Client) Prekeys() ([]uint32, error) {
	return asked(c, "Prekeys", keyring.Numbers)
}

// Records: all that is in its store.
func (c *Client) Records() ([]api.Record, error) {
	return asked(c, "Records", func(*store.Tx) ([]api.Record, api.Errno) { return c.store.All(), api.OK })
}

// Pages: how many there are, and how many are used.
func (c *Client) Pages() (total, used int, err error) {
	both, err := asked(c, "Pages", func(*store.Tx) ([2]int, api.Errno) {
		total, used := c.store.Pages()
		return [2]int{total, used}, api.OK
	})
	return both[0], both[1], err
}
