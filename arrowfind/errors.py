"""The refusals, one class for each."""


# What an error tells must stay as it was, whatever becomes of the lists it was made of.
def own_copy(value):
    if isinstance(value, list):
        return [own_copy(part) for part in value]
    if isinstance(value, tuple):
        return tuple([own_copy(part) for part in value])
    return value


class ArrowError(ValueError):
    pass


class WrongSize(ArrowError):
    pass


class NoWord(ArrowError):
    pass


class Twice(ArrowError):
    pass


class NoName(ArrowError):
    pass


class Ring(ArrowError):
    def __init__(self, ring):
        ArrowError.__init__(self, f"the arrows come round: {ring!r}")
        self.ring = own_copy(ring)


class Unlike(ArrowError):
    pass


class NoArrow(ArrowError):
    pass


class Locked(ArrowError):
    pass


class NoTie(ArrowError):
    pass


class NoSuch(ArrowError):
    pass


class NoNet(ArrowError):
    def __init__(self, place):
        ArrowError.__init__(self, f"no net has this place: {place!r}")
        self.place = own_copy(place)


class NoText(ArrowError):
    pass


class NoRow(ArrowError):
    pass


class NoLabel(ArrowError):
    pass
