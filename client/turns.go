package client

import (
	"cmp"

	"lethe/api"
	"lethe/store"
)

// nothing: the answer of a call that has none beside its error.
type nothing struct{}

// step: what a call does in its transaction.
type step[T any] func(t *store.Tx) (T, api.Errno)

// changed: a call whose step is committed; its answer is told only of what is durable. ahead: what its arguments are refused with.
func changed[T any](c *Client, call string, ahead api.Errno, do step[T]) (T, error) {
	return turn(c, call, ahead, do, c.commit)
}

// asked: a call whose step changes nothing. What a transaction sees lies in memory, so the disk is not asked.
func asked[T any](c *Client, call string, do step[T]) (T, error) {
	return turn(c, call, api.OK, do, func(*store.Tx) error { return nil })
}

// turn: a call has the client for itself, and a transaction that is given up unless it comes to its end.
func turn[T any](c *Client, call string, ahead api.Errno, do step[T], end func(t *store.Tx) error) (T, error) {
	c.lock.Lock()
	defer c.lock.Unlock()
	var none T
	if e := cmp.Or(c.ended, ahead); e != api.OK {
		return none, fault(call, e)
	}
	t, e := c.store.Begin()
	if e != api.OK {
		return none, fault(call, e)
	}
	defer t.Abort() // of a committed one nothing is left to give up
	answer, e := do(t)
	if e != api.OK {
		return none, fault(call, e)
	}
	if err := end(t); err != nil {
		return none, fault(call, err)
	}
	return answer, nil
}

// commit: a store that has no room goes on; one whose disk gave up does not, nor does its client.
func (c *Client) commit(t *store.Tx) error {
	err := t.Commit()
	if c.store.Err() != nil {
		c.end(api.Code(err))
	}
	return err
}
