"""Arrowfind: nets of arrows that say the same."""
