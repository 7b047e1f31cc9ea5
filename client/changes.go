package client

import (
	"lethe/api"
	"lethe/header"
	"lethe/keyring"
	"lethe/outbox"
	"lethe/session"
	"lethe/store"
)

const drawSize = len(api.Key{})

// Publish: new prekeys; their bundles.
func (c *Client) Publish(draws ...[]byte) ([][]byte, error) {
	ahead := drawFault(draws...)
	if len(draws) == 0 {
		ahead = api.ErrEmpty
	}
	return changed(c, "Publish", ahead, func(t *store.Tx) ([][]byte, api.Errno) {
		offers, e := keyring.Publish(t, draws...)
		return bundlesOf(offers), e
	})
}

func bundlesOf(offers []api.Offer) [][]byte {
	var bundles [][]byte
	for _, o := range offers {
		bundles = append(bundles, header.Offer(o))
	}
	return bundles
}

// Initiate: a session and its first message; its packet.
func (c *Client) Initiate(peer string, bundle, once, turn, text, data []byte) ([]byte, error) {
	return changed(c, "Initiate", drawFault(once, turn), func(t *store.Tx) ([]byte, api.Errno) {
		return session.Initiate(t, peer, bundle, api.Key(once), api.Key(turn), text, data)
	})
}

// Accept: a session by its first packet; the text.
func (c *Client) Accept(peer string, packet, turn, data []byte) ([]byte, error) {
	return changed(c, "Accept", drawFault(turn), func(t *store.Tx) ([]byte, api.Errno) {
		return session.Accept(t, peer, packet, api.Key(turn), data)
	})
}

// Send: a message; its serial and packet.
func (c *Client) Send(peer string, text, data []byte) (uint32, []byte, error) {
	m, err := changed(c, "Send", api.OK, func(t *store.Tx) (api.Mail, api.Errno) {
		serial, packet, e := session.Send(t, peer, text, data)
		return api.Mail{Serial: serial, Bytes: packet}, e
	})
	return m.Serial, m.Bytes, err
}

// Receive: a packet; the text.
func (c *Client) Receive(peer string, packet, turn, data []byte) ([]byte, error) {
	return changed(c, "Receive", drawFault(turn), func(t *store.Tx) ([]byte, api.Errno) {
		return session.Receive(t, peer, packet, api.Key(turn), data)
	})
}

// Ack: the peer has that one.
func (c *Client) Ack(peer string, serial uint32) error {
	_, err := changed(c, "Ack", api.OK, func(t *store.Tx) (nothing, api.Errno) {
		if e := session.Name(peer); e != api.OK {
			return nothing{}, e
		}
		return nothing{}, outbox.Ack(t, peer, serial)
	})
	return err
}

// Forget: the session ends.
func (c *Client) Forget(peer string) error {
	_, err := changed(c, "Forget", api.OK, func(t *store.Tx) (nothing, api.Errno) {
		return nothing{}, session.Forget(t, peer)
	})
	return err
}

// drawFault: ErrDraw, unless each of these is a draw.
func drawFault(draws ...[]byte) api.Errno {
	for _, draw := range draws {
		if len(draw) != drawSize {
			return api.ErrDraw
		}
	}
	return api.OK
}
